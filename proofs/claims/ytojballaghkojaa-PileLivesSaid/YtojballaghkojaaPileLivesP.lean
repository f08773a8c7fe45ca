/- Proves 'PileLivesSaid': for every input the Go function PileLives returns true, and each argument reads afterwards as it read before. Conditions: none beyond the row's own. -/
import Derived.Test.YtojballaghkojaaRows
import Derived.WalkKit
import Derived.ProofKit
import Derived.OpenShut
import Derived.ShutString
import Derived.SliceStrings
import Derived.ChangeOld
import Derived.Below
import Derived.Test.YtojballaghkojaaPilX
namespace Go.Proofs.Ytojballaghkojaa.pileLives
open Go.ChangeShapes Go.WideShapes Go.ChangeAt Go.RowKit
open Go.ChangeMaps (open_string shut_string)
set_option linter.unusedVariables false

theorem own : ownKnob Try.prog.godebug = none := by kernel_rfl
theorem laidOut : laidOutB Try.prog = true := by kernel_rfl

/-- WHAT THE WALK IS TOLD OF A SLICE OF INTEGERS THAT CAME IN: it is nil; or it leads to a row of 'cap' cells, the numbers 'zs' (the first 'len' are its elements, the rest its spare room), each fitting its kind. -/
def IsRow (k : IntKind) (w : World) (a : Option Addr) (len cap : Nat) (zs : List Int) : Prop :=
  (a = none ∧ len = 0 ∧ cap = 0 ∧ zs = []) ∨
  ∃ x, a = some x ∧ len ≤ cap ∧ cap ≤ maxLen ∧ zs.length = cap ∧ (∀ i, i < zs.length → w.cell? (x.add i) = some (.int k (zs.getD i 0))) ∧ ∀ n ∈ zs, (Lit.int k n).wf = true

set_option linter.unusedSimpArgs false

/-! ### STEP 1: THE WALK: the Go text returns true, AND WRITES NOTHING THAT WAS THERE: 'Below w.heap.size w w'' (Derived/Below.lean: '.refl', '.alloc', '.drew', '.setCell' at a new block, '.trans'). Open each 'IsRow' by 'rcases' AHEAD of 'go_enter'; part every test ahead of the walk. -/
set_option maxRecDepth 20000 in
set_option maxHeartbeats 16000000 in
theorem walk (a0 : Option Addr) (len0 cap0 : Nat) (z0 : List Opi) (w : World) (w0 : IsRowQ w a0 len0 cap0 z0) :
    Calls Try.prog 3 #[.slice a0 len0 cap0] w fun e w' => e = .returned (.bool true) ∧ Below w.heap.size w w' := by
  obtain ⟨hl, hlc, hcm, hops, hwf⟩ := w0
  subst hl
  by_cases hbig : (150 : Int) < z0.length
  · clear hops hwf
    go_enter Try.func3, Try.ntmps3
    go_wp2_with fail
    refine (heads _).mono ?_
    rintro e w' ⟨rfl, b⟩
    go_wp2_with fail
    go_ret
    exact ⟨rfl, b⟩
  have hbig' : (z0.length : Int) ≤ 150 := by omega
  have H := hid hops
  have Hwf := hid hwf
  clear hops hbig hwf
  go_enter Try.func3, Try.ntmps3
  go_wp2_with fail
  refine (o_New w).mono ?_
  rintro e w1 ⟨p, rfl, t1, b1⟩
  have X1 := hid (Two.nil t1)
  clear t1
  go_wp2_with fail
  go_loopw [4, 5] (fun mv iv wr => ∃ (k : Nat) (l s : List Pil.It) (A1 : Option Addr) (c1 : Nat), iv = .int .i64 k ∧ k ≤ z0.length ∧ l.length ≤ k ∧ mv = .slice A1 l.length c1 ∧ l.length ≤ c1 ∧ Hid (l.Perm s) ∧ Hid (Two w.heap.size wr p A1 s l) ∧ Below w.heap.size w wr) (fun _ iv _ => z0.length - (intOf iv).toNat)
  case atStart => exact ⟨0, [], [], none, 0, rfl, Nat.zero_le _, Nat.le_refl _, rfl, Nat.le_refl _, hid (List.Perm.refl _), X1, b1⟩
  case round =>
    clear X1 b1
    obtain ⟨k, l, s, A1, c1, rfl, hk, hll, rfl, hlc1, HP, X, hb⟩ := hrel
    by_cases hlt : k < z0.length
    · obtain ⟨b0, o0, kd, key, rank, rfl, hbB, Hx, hc0, hc1, hc2⟩ := Opq.get (H.out.below hb (Nat.le_refl _)) hlt
      have i1 : (0 : Int) ≤ (k : Int) := by omega
      have i2 : (k : Int) < (z0.length : Int) := by omega
      have Hw := hid (Hwf.out _ (List.mem_of_getElem? Hx.out))
      have hsl : s.length = l.length := HP.out.length_eq.symm
      have hll2 : l.length ≤ 150 := by omega
      have hls : s.length ≤ 10000 := by omega
      have Hss := hid X.out.pl.srt
      have Hnd := hid (Pil.Perm.nd HP.out Hss.out.nd)
      have ba := below_alloc wr (.cells #[.int .i64 kd, .int .i64 key, .int .i64 rank] 28)
      have Xa := hid (X.out.below ba)
      have Ba := hid (below2 hb ba)
      have F := hid (r_Find A1 l.length c1 l rfl (by omega) key _ _ Xa.out.row)
      unfold IxRet at F
      have R := hid (o_Rank Xa.out.pl hls key Hw.out.2.1)
      rw [← Pil.perm_get HP.out Hss.out.nd] at R
      have e0 : (wr.alloc (.cells #[.int .i64 kd, .int .i64 key, .int .i64 rank] 28)).cell? ⟨wr.heap.size, 0, none⟩ = some (.int .i64 kd) := by have h := lit_three wr (.int .i64 kd) (.int .i64 key) (.int .i64 rank) 28 0 _ rfl; rwa [Addr.add_lit] at h
      have e1 : (wr.alloc (.cells #[.int .i64 kd, .int .i64 key, .int .i64 rank] 28)).cell? ⟨wr.heap.size, 1, none⟩ = some (.int .i64 key) := by have h := lit_three wr (.int .i64 kd) (.int .i64 key) (.int .i64 rank) 28 1 _ rfl; rwa [Addr.add_lit] at h
      have e2 : (wr.alloc (.cells #[.int .i64 kd, .int .i64 key, .int .i64 rank] 28)).cell? ⟨wr.heap.size, 2, none⟩ = some (.int .i64 rank) := by have h := lit_three wr (.int .i64 kd) (.int .i64 key) (.int .i64 rank) 28 2 _ rfl; rwa [Addr.add_lit] at h
      have Hbx := hid (show wr.heap.size < (wr.alloc (.cells #[.int .i64 kd, .int .i64 key, .int .i64 rank] 28)).heap.size by simp)
      clear X hb ba
      cases hf : Pil.find l key with
      | some j =>
        obtain ⟨r, hjr, hjl⟩ := Pil.find_some hf
        have hg := Pil.find_get Hnd.out hjr
        rw [hg] at R
        rw [fnd_pos hf] at F
        have Hf := hid hf
        have Hjr := hid hjr
        have Hjl := hid hjl
        have Hgs := hid ((Pil.perm_get HP.out Hss.out.nd key).symm.trans hg)
        have j1 : (0 : Int) ≤ (j : Int) := by omega
        have j2 : (j : Int) < (l.length : Int) := by omega
        clear hf hg hjr
        unfold RkRet at R
        go_wp2_with fail
        refine (F.out).mono ?_
        rintro e w2 ⟨rfl, rfl⟩
        go_wp2_with fail
        refine (R.out).mono ?_
        rintro e w3 ⟨rfl, b3⟩
        have X3 := hid (Xa.out.below b3)
        have B3 := hid (below2 Ba.out b3)
        have g0 := (b3.cell (p := ⟨wr.heap.size, 0, none⟩) Hbx.out).trans e0
        have g1 := (b3.cell (p := ⟨wr.heap.size, 1, none⟩) Hbx.out).trans e1
        have g2 := (b3.cell (p := ⟨wr.heap.size, 2, none⟩) Hbx.out).trans e2
        have Hb3 := hid (Nat.lt_of_lt_of_le Hbx.out b3.size)
        clear F R e0 e1 e2 Xa Ba b3 hc0 hc1 hc2
        obtain ⟨BX, hBX⟩ : ∃ B, wr.heap.size = B := ⟨_, rfl⟩
        rw [hBX] at g0 g1 g2 Hb3 ⊢
        clear hBX Hbx
        obtain ⟨b1, o1, ky1, vl1, rfl, _, Hx1, q1, q2⟩ := Its2.get X3.out.row Hjl.out
        have hx1 := Hx1.out
        rw [Hjr.out] at hx1
        injection hx1 with hx1
        injection hx1 with hx1 hx2
        subst hx1; subst hx2
        clear q1
        by_cases h1 : kd = 1
        · subst h1
          have P := hid (r_Push (some ⟨b1, o1, none⟩) l.length c1 l rfl hlc1 (by omega) key rank _ w3 (Nat.le_refl _) X3.out.row)
          rw [Hf.out] at P
          simp only [Option.isSome_some, Option.isSome_none, if_true, Bool.false_eq_true, if_false, Bool.not_true, Bool.not_false] at P
          obtain ⟨l2, Hl2⟩ : ∃ x, Hid (l = x) := ⟨_, hid rfl⟩
          obtain ⟨s2, Hs2⟩ : ∃ x, Hid (Pil.push s (key, rank) = x) := ⟨_, hid rfl⟩
          have hpm : Hid (l2.Perm s2) := hid (by rw [← Hl2.out, ← Hs2.out]; rw [show Pil.push s (key, rank) = s from if_pos (Pil.get_some.1 (by rw [Hgs.out]; rfl))]; exact HP.out)
          have hlen : l2.length ≤ k + 1 := by rw [← Hl2.out]; omega
          unfold UpRet at P
          go_wp2_with fail
          refine (P.out).mono ?_
          rintro e w4 ⟨A4, c4, rfl, r4, hc4, ha4, b4⟩
          have X4 := hid (X3.out.up b4 r4 ha4)
          have B4 := hid (below2 B3.out b4)
          have k1 := (b4.cell (p := ⟨BX, 1, none⟩) Hb3.out).trans g1
          have k2 := (b4.cell (p := ⟨BX, 2, none⟩) Hb3.out).trans g2
          have Q := hid (two_Push X4.out B4.out.size hls key rank Hw.out.2.1 Hw.out.2.2)
          rw [Hgs.out, Hs2.out] at Q
          unfold TwoDid at Q
          have HC4 := hid hc4
          clear P g0 g1 g2 b4 r4 ha4 X3 B3 hc4
          go_wp2_with fail
          refine (Q.out).mono ?_
          rintro e w5 ⟨rfl, X5', b5⟩
          have X5 := hid X5'
          have B5 := hid (B4.out.trans b5)
          clear Q X5' b5 X4 B4 k1 k2
          have hl2 : l = l2 := Hl2.out
          subst hl2
          have hle := hpm.out.length_eq
          have L := hid (o_Len X5.out.pl (by omega))
          unfold LnRet at L
          rw [← hle] at L
          clear hle
          go_wp2_with fail
          refine (L.out).mono ?_
          rintro e w8 ⟨rfl, b8⟩
          have HX8 := hid (X5.out.below b8)
          have HB8 := hid (below2 B5.out b8)
          clear b8
          go_wp2_with fail
          exact ⟨⟨k + 1, _, _, _, _, by go_num, by omega, hlen, rfl, HC4.out, hpm, HX8, HB8.out⟩, by simp [intOf]; omega⟩
        have e1 : (kd == 1) = false := by rw [beq_eq_false_iff_ne]; exact h1
        clear h1
        by_cases h2 : kd = 2
        · subst h2
          have P := hid (r_Move (some ⟨b1, o1, none⟩) l.length c1 l rfl hlc1 (by omega) key rank _ w3 (Nat.le_refl _) X3.out.row)
          rw [Hf.out] at P
          simp only [Option.isSome_some, Option.isSome_none, if_true, Bool.false_eq_true, if_false, Bool.not_true, Bool.not_false] at P
          obtain ⟨l2, Hl2⟩ : ∃ x, Hid (l.eraseIdx j ++ [(key, rank)] = x) := ⟨_, hid rfl⟩
          obtain ⟨s2, Hs2⟩ : ∃ x, Hid (Pil.move s (key, rank) = x) := ⟨_, hid rfl⟩
          have hpm : Hid (l2.Perm s2) := hid (by rw [← Hl2.out, ← Hs2.out]; rw [show Pil.move s (key, rank) = Pil.ins (key, rank) (Pil.del s key) from if_pos (Pil.get_some.1 (by rw [Hgs.out]; rfl))]; exact (List.perm_append_comm.trans (((Pil.erase_perm Hnd.out Hjr.out).trans (Pil.perm_del HP.out key)).cons _)).trans (Pil.ins_perm _ _).symm)
          have hlen : l2.length ≤ k + 1 := by rw [← Hl2.out]; rw [List.length_append, List.length_eraseIdx_of_lt Hjl.out]; show l.length - 1 + 1 ≤ k + 1; omega
          rw [Hl2.out] at P
          unfold UpRet at P
          go_wp2_with fail
          refine (P.out).mono ?_
          rintro e w4 ⟨A4, c4, rfl, r4, hc4, ha4, b4⟩
          have X4 := hid (X3.out.up b4 r4 ha4)
          have B4 := hid (below2 B3.out b4)
          have k1 := (b4.cell (p := ⟨BX, 1, none⟩) Hb3.out).trans g1
          have k2 := (b4.cell (p := ⟨BX, 2, none⟩) Hb3.out).trans g2
          have Q := hid (two_Move X4.out B4.out.size hls key rank Hw.out.2.1 Hw.out.2.2)
          rw [Hgs.out, Hs2.out] at Q
          unfold TwoDid at Q
          have HC4 := hid hc4
          clear P g0 g1 g2 b4 r4 ha4 X3 B3 hc4
          go_wp2_with fail
          refine (Q.out).mono ?_
          rintro e w5 ⟨rfl, X5', b5⟩
          have X5 := hid X5'
          have B5 := hid (B4.out.trans b5)
          clear Q X5' b5 X4 B4 k1 k2
          have hle := hpm.out.length_eq
          have L := hid (o_Len X5.out.pl (by omega))
          unfold LnRet at L
          rw [← hle] at L
          clear hle
          go_wp2_with fail
          refine (L.out).mono ?_
          rintro e w8 ⟨rfl, b8⟩
          have HX8 := hid (X5.out.below b8)
          have HB8 := hid (below2 B5.out b8)
          clear b8
          go_wp2_with fail
          exact ⟨⟨k + 1, _, _, _, _, by go_num, by omega, hlen, rfl, HC4.out, hpm, HX8, HB8.out⟩, by simp [intOf]; omega⟩
        have e2 : (kd == 2) = false := by rw [beq_eq_false_iff_ne]; exact h2
        clear h2
        by_cases h3 : kd = 3
        · subst h3
          have Q := hid (two_Drop X3.out B3.out.size hls key Hw.out.2.1)
          obtain ⟨l2, Hl2⟩ : ∃ x, Hid (l.eraseIdx j = x) := ⟨_, hid rfl⟩
          obtain ⟨s2, Hs2⟩ : ∃ x, Hid (Pil.del s key = x) := ⟨_, hid rfl⟩
          have hpm : Hid (l2.Perm s2) := hid (by rw [← Hl2.out, ← Hs2.out]; exact (Pil.erase_perm Hnd.out Hjr.out).trans (Pil.perm_del HP.out key))
          have hlen : l2.length ≤ k + 1 := by rw [← Hl2.out]; rw [List.length_eraseIdx_of_lt Hjl.out]; omega
          rw [Hgs.out, Hs2.out] at Q
          unfold TwoDid at Q
          clear g2
          go_wp2_with fail
          refine (Q.out).mono ?_
          rintro e w5 ⟨rfl, X5', b5⟩
          have X5 := hid X5'
          have B5 := hid (B3.out.trans b5)
          clear Q X5' b5 g0 g1 X3 B3
          have W := hid (r_Without (some ⟨b1, o1, none⟩) l.length c1 l rfl hlc1 (by omega) j Hjl.out _ w5 (Nat.le_refl _) X5.out.row)
          have W := hid (W.out.mono fun _ _ h => h.it)
          unfold ItRet at W
          rw [Hl2.out] at W
          clear q2
          go_wp2_with fail
          refine (W.out).mono ?_
          rintro e w6 ⟨A6, c6, rfl, r6, hc6, ha6, b6⟩
          have X6 := hid (X5.out.up b6 r6 (.inr ha6))
          have B6 := hid (below2 B5.out b6)
          have HC6 := hid hc6
          clear W r6 ha6 b6 hc6 X5 B5
          have hle := hpm.out.length_eq
          have L := hid (o_Len X6.out.pl (by omega))
          unfold LnRet at L
          rw [← hle] at L
          clear hle
          go_wp2_with fail
          refine (L.out).mono ?_
          rintro e w8 ⟨rfl, b8⟩
          have HX8 := hid (X6.out.below b8)
          have HB8 := hid (below2 B6.out b8)
          clear b8
          go_wp2_with fail
          exact ⟨⟨k + 1, _, _, _, _, by go_num, by omega, hlen, rfl, HC6.out, hpm, HX8, HB8.out⟩, by simp [intOf]; omega⟩
        have e3 : (kd == 3) = false := by rw [beq_eq_false_iff_ne]; exact h3
        clear h3
        by_cases h4 : kd = 4
        · subst h4
          have Q := hid (l_popped X3.out B3.out.size hls HP.out l.length c1 rfl)
          unfold PopRet at Q
          clear g2 g1
          go_wp2_with fail
          refine (Q.out).mono ?_
          rintro e w5 ⟨rfl, X5', b5⟩
          have X5 := hid X5'
          have B5 := hid (B3.out.trans b5)
          clear Q X5' b5 g0 X3 B3
          cases s with
          | nil =>
            have hl0 : l = [] := List.perm_nil.1 HP.out
            subst hl0
            exact absurd Hjl.out (by simp)
          | cons y ys =>
            have hne : l ≠ [] := by rintro rfl; have := HP.out.length_eq; simp at this
            have hlp : (0 : Int) < (l.length : Int) := by have := List.length_pos_iff.2 hne; omega
            have TP := hid (r_Top (some ⟨b1, o1, none⟩) l.length c1 l rfl (by omega) _ w5 X5.out.row)
            unfold TopRet at TP
            rw [List.tail_cons] at X5
            have Hne := hid hne
            clear hne
            go_wp2_with fail
            refine (TP.out).mono ?_
            rintro e w6 ⟨z, rfl, b6, _, _, hz6⟩
            obtain ⟨t, rfl, ht, htl⟩ := hz6 Hne.out
            have hy := Pil.top_head HP.out Hss.out ht
            have X6 := hid (X5.out.below b6)
            have B6 := hid (below2 B5.out b6)
            have W := hid (r_Without (some ⟨b1, o1, none⟩) l.length c1 l rfl hlc1 (by omega) t htl _ w6 (Nat.le_refl _) X6.out.row)
            have W := hid (W.out.mono fun _ _ h => h.it)
            have Hy := hid hy
            have Htl := hid htl
            obtain ⟨l2, Hl2⟩ : ∃ x, Hid (l.eraseIdx t = x) := ⟨_, hid rfl⟩
            obtain ⟨s2, Hs2⟩ : ∃ x, Hid (ys = x) := ⟨_, hid rfl⟩
            have hpm : Hid (l2.Perm s2) := hid (by rw [← Hl2.out, ← Hs2.out]; have h1 := (Pil.erase_perm Hnd.out Hy.out).trans (Pil.perm_del HP.out y.1); rwa [Pil.del_head Hss.out.nd] at h1)
            have hlen : l2.length ≤ k + 1 := by rw [← Hl2.out]; rw [List.length_eraseIdx_of_lt Htl.out]; omega
            rw [Hl2.out] at W
            unfold ItRet at W
            have hys : ys = s2 := Hs2.out
            subst hys
            clear TP hy ht b6 X5 B5
            go_wp2_with fail
            refine (W.out).mono ?_
            rintro e w7 ⟨A7, c7, rfl, r7, hc7, ha7, b7⟩
            have X7 := hid (X6.out.up b7 r7 (.inr ha7))
            have B7 := hid (below2 B6.out b7)
            have HC7 := hid hc7
            clear W r7 ha7 b7 hc7 X6 B6
            have hle := hpm.out.length_eq
            have L := hid (o_Len X7.out.pl (by omega))
            unfold LnRet at L
            rw [← hle] at L
            clear hle
            go_wp2_with fail
            refine (L.out).mono ?_
            rintro e w8 ⟨rfl, b8⟩
            have HX8 := hid (X7.out.below b8)
            have HB8 := hid (below2 B7.out b8)
            clear b8
            go_wp2_with fail
            exact ⟨⟨k + 1, _, _, _, _, by go_num, by omega, hlen, rfl, HC7.out, hpm, HX8, HB8.out⟩, by simp [intOf]; omega⟩
        have e4 : (kd == 4) = false := by rw [beq_eq_false_iff_ne]; exact h4
        clear h4
        clear g1 g2
        have hpm := HP
        have hlen : l.length ≤ k + 1 := by omega
        have hle := hpm.out.length_eq
        have L := hid (o_Len X3.out.pl (by omega))
        unfold LnRet at L
        rw [← hle] at L
        clear hle
        go_wp2_with fail
        refine (L.out).mono ?_
        rintro e w8 ⟨rfl, b8⟩
        have HX8 := hid (X3.out.below b8)
        have HB8 := hid (below2 B3.out b8)
        clear b8
        go_wp2_with fail
        exact ⟨⟨k + 1, _, _, _, _, by go_num, by omega, hlen, rfl, hlc1, hpm, HX8, HB8.out⟩, by simp [intOf]; omega⟩
      | none =>
        have hg : Pil.get l key = none := Pil.get_none.2 (Pil.find_none hf)
        rw [hg] at R
        rw [fnd_neg hf] at F
        have Hf := hid hf
        have Hgs := hid ((Pil.perm_get HP.out Hss.out.nd key).symm.trans hg)
        clear hf hg
        unfold RkRet at R
        go_wp2_with fail
        refine (F.out).mono ?_
        rintro e w2 ⟨rfl, rfl⟩
        go_wp2_with fail
        refine (R.out).mono ?_
        rintro e w3 ⟨rfl, b3⟩
        have X3 := hid (Xa.out.below b3)
        have B3 := hid (below2 Ba.out b3)
        have g0 := (b3.cell (p := ⟨wr.heap.size, 0, none⟩) Hbx.out).trans e0
        have g1 := (b3.cell (p := ⟨wr.heap.size, 1, none⟩) Hbx.out).trans e1
        have g2 := (b3.cell (p := ⟨wr.heap.size, 2, none⟩) Hbx.out).trans e2
        have Hb3 := hid (Nat.lt_of_lt_of_le Hbx.out b3.size)
        clear F R e0 e1 e2 Xa Ba b3 hc0 hc1 hc2
        obtain ⟨BX, hBX⟩ : ∃ B, wr.heap.size = B := ⟨_, rfl⟩
        rw [hBX] at g0 g1 g2 Hb3 ⊢
        clear hBX Hbx
        by_cases h1 : kd = 1
        · subst h1
          have P := hid (r_Push A1 l.length c1 l rfl hlc1 (by omega) key rank _ w3 (Nat.le_refl _) X3.out.row)
          rw [Hf.out] at P
          simp only [Option.isSome_some, Option.isSome_none, if_true, Bool.false_eq_true, if_false, Bool.not_true, Bool.not_false] at P
          obtain ⟨l2, Hl2⟩ : ∃ x, Hid (l ++ [(key, rank)] = x) := ⟨_, hid rfl⟩
          obtain ⟨s2, Hs2⟩ : ∃ x, Hid (Pil.push s (key, rank) = x) := ⟨_, hid rfl⟩
          have hpm : Hid (l2.Perm s2) := hid (by rw [← Hl2.out, ← Hs2.out]; exact Pil.perm_push HP.out (x := (key, rank)) (Pil.get_none.1 Hgs.out))
          have hlen : l2.length ≤ k + 1 := by rw [← Hl2.out]; rw [List.length_append]; show l.length + 1 ≤ k + 1; omega
          rw [Hl2.out] at P
          unfold UpRet at P
          go_wp2_with fail
          refine (P.out).mono ?_
          rintro e w4 ⟨A4, c4, rfl, r4, hc4, ha4, b4⟩
          have X4 := hid (X3.out.up b4 r4 ha4)
          have B4 := hid (below2 B3.out b4)
          have k1 := (b4.cell (p := ⟨BX, 1, none⟩) Hb3.out).trans g1
          have k2 := (b4.cell (p := ⟨BX, 2, none⟩) Hb3.out).trans g2
          have Q := hid (two_Push X4.out B4.out.size hls key rank Hw.out.2.1 Hw.out.2.2)
          rw [Hgs.out, Hs2.out] at Q
          unfold TwoDid at Q
          have HC4 := hid hc4
          clear P g0 g1 g2 b4 r4 ha4 X3 B3 hc4
          go_wp2_with fail
          refine (Q.out).mono ?_
          rintro e w5 ⟨rfl, X5', b5⟩
          have X5 := hid X5'
          have B5 := hid (B4.out.trans b5)
          clear Q X5' b5 X4 B4 k1 k2
          have hle := hpm.out.length_eq
          have L := hid (o_Len X5.out.pl (by omega))
          unfold LnRet at L
          rw [← hle] at L
          clear hle
          go_wp2_with fail
          refine (L.out).mono ?_
          rintro e w8 ⟨rfl, b8⟩
          have HX8 := hid (X5.out.below b8)
          have HB8 := hid (below2 B5.out b8)
          clear b8
          go_wp2_with fail
          exact ⟨⟨k + 1, _, _, _, _, by go_num, by omega, hlen, rfl, HC4.out, hpm, HX8, HB8.out⟩, by simp [intOf]; omega⟩
        have e1 : (kd == 1) = false := by rw [beq_eq_false_iff_ne]; exact h1
        clear h1
        by_cases h2 : kd = 2
        · subst h2
          have P := hid (r_Move A1 l.length c1 l rfl hlc1 (by omega) key rank _ w3 (Nat.le_refl _) X3.out.row)
          rw [Hf.out] at P
          simp only [Option.isSome_some, Option.isSome_none, if_true, Bool.false_eq_true, if_false, Bool.not_true, Bool.not_false] at P
          obtain ⟨l2, Hl2⟩ : ∃ x, Hid (l = x) := ⟨_, hid rfl⟩
          obtain ⟨s2, Hs2⟩ : ∃ x, Hid (Pil.move s (key, rank) = x) := ⟨_, hid rfl⟩
          have hpm : Hid (l2.Perm s2) := hid (by rw [← Hl2.out, ← Hs2.out]; rw [show Pil.move s (key, rank) = s from if_neg (Pil.get_none.1 Hgs.out)]; exact HP.out)
          have hlen : l2.length ≤ k + 1 := by rw [← Hl2.out]; omega
          unfold UpRet at P
          go_wp2_with fail
          refine (P.out).mono ?_
          rintro e w4 ⟨A4, c4, rfl, r4, hc4, ha4, b4⟩
          have X4 := hid (X3.out.up b4 r4 ha4)
          have B4 := hid (below2 B3.out b4)
          have k1 := (b4.cell (p := ⟨BX, 1, none⟩) Hb3.out).trans g1
          have k2 := (b4.cell (p := ⟨BX, 2, none⟩) Hb3.out).trans g2
          have Q := hid (two_Move X4.out B4.out.size hls key rank Hw.out.2.1 Hw.out.2.2)
          rw [Hgs.out, Hs2.out] at Q
          unfold TwoDid at Q
          have HC4 := hid hc4
          clear P g0 g1 g2 b4 r4 ha4 X3 B3 hc4
          go_wp2_with fail
          refine (Q.out).mono ?_
          rintro e w5 ⟨rfl, X5', b5⟩
          have X5 := hid X5'
          have B5 := hid (B4.out.trans b5)
          clear Q X5' b5 X4 B4 k1 k2
          have hl2 : l = l2 := Hl2.out
          subst hl2
          have hle := hpm.out.length_eq
          have L := hid (o_Len X5.out.pl (by omega))
          unfold LnRet at L
          rw [← hle] at L
          clear hle
          go_wp2_with fail
          refine (L.out).mono ?_
          rintro e w8 ⟨rfl, b8⟩
          have HX8 := hid (X5.out.below b8)
          have HB8 := hid (below2 B5.out b8)
          clear b8
          go_wp2_with fail
          exact ⟨⟨k + 1, _, _, _, _, by go_num, by omega, hlen, rfl, HC4.out, hpm, HX8, HB8.out⟩, by simp [intOf]; omega⟩
        have e2 : (kd == 2) = false := by rw [beq_eq_false_iff_ne]; exact h2
        clear h2
        by_cases h3 : kd = 3
        · subst h3
          have Q := hid (two_Drop X3.out B3.out.size hls key Hw.out.2.1)
          obtain ⟨l2, Hl2⟩ : ∃ x, Hid (l = x) := ⟨_, hid rfl⟩
          obtain ⟨s2, Hs2⟩ : ∃ x, Hid (Pil.del s key = x) := ⟨_, hid rfl⟩
          have hpm : Hid (l2.Perm s2) := hid (by rw [← Hl2.out, ← Hs2.out]; rw [Pil.del_none (Pil.get_none.1 Hgs.out)]; exact HP.out)
          have hlen : l2.length ≤ k + 1 := by rw [← Hl2.out]; omega
          rw [Hgs.out, Hs2.out] at Q
          unfold TwoDid at Q
          clear g2
          go_wp2_with fail
          refine (Q.out).mono ?_
          rintro e w5 ⟨rfl, X5', b5⟩
          have X5 := hid X5'
          have B5 := hid (B3.out.trans b5)
          clear Q X5' b5 g0 g1 X3 B3
          have hl2 : l = l2 := Hl2.out
          subst hl2
          have hle := hpm.out.length_eq
          have L := hid (o_Len X5.out.pl (by omega))
          unfold LnRet at L
          rw [← hle] at L
          clear hle
          go_wp2_with fail
          refine (L.out).mono ?_
          rintro e w8 ⟨rfl, b8⟩
          have HX8 := hid (X5.out.below b8)
          have HB8 := hid (below2 B5.out b8)
          clear b8
          go_wp2_with fail
          exact ⟨⟨k + 1, _, _, _, _, by go_num, by omega, hlen, rfl, hlc1, hpm, HX8, HB8.out⟩, by simp [intOf]; omega⟩
        have e3 : (kd == 3) = false := by rw [beq_eq_false_iff_ne]; exact h3
        clear h3
        by_cases h4 : kd = 4
        · subst h4
          have Q := hid (l_popped X3.out B3.out.size hls HP.out l.length c1 rfl)
          unfold PopRet at Q
          clear g2 g1
          go_wp2_with fail
          refine (Q.out).mono ?_
          rintro e w5 ⟨rfl, X5', b5⟩
          have X5 := hid X5'
          have B5 := hid (B3.out.trans b5)
          clear Q X5' b5 g0 X3 B3
          cases s with
          | nil =>
            have hl0 : l = [] := List.perm_nil.1 HP.out
            subst hl0
            have hpm : Hid (List.Perm ([] : List Pil.It) (List.tail ([] : List Pil.It))) := hid (List.Perm.refl _)
            have hlen : ([] : List Pil.It).length ≤ k + 1 := by simp
            have hle := hpm.out.length_eq
            have L := hid (o_Len X5.out.pl (by omega))
            unfold LnRet at L
            rw [← hle] at L
            clear hle
            go_wp2_with fail
            refine (L.out).mono ?_
            rintro e w8 ⟨rfl, b8⟩
            have HX8 := hid (X5.out.below b8)
            have HB8 := hid (below2 B5.out b8)
            clear b8
            go_wp2_with fail
            exact ⟨⟨k + 1, _, _, _, _, by go_num, by omega, hlen, rfl, hlc1, hpm, HX8, HB8.out⟩, by simp [intOf]; omega⟩
          | cons y ys =>
            have hne : l ≠ [] := by rintro rfl; have := HP.out.length_eq; simp at this
            have hlp : (0 : Int) < (l.length : Int) := by have := List.length_pos_iff.2 hne; omega
            have TP := hid (r_Top A1 l.length c1 l rfl (by omega) _ w5 X5.out.row)
            unfold TopRet at TP
            rw [List.tail_cons] at X5
            have Hne := hid hne
            clear hne
            go_wp2_with fail
            refine (TP.out).mono ?_
            rintro e w6 ⟨z, rfl, b6, _, _, hz6⟩
            obtain ⟨t, rfl, ht, htl⟩ := hz6 Hne.out
            have hy := Pil.top_head HP.out Hss.out ht
            have X6 := hid (X5.out.below b6)
            have B6 := hid (below2 B5.out b6)
            have W := hid (r_Without A1 l.length c1 l rfl hlc1 (by omega) t htl _ w6 (Nat.le_refl _) X6.out.row)
            have W := hid (W.out.mono fun _ _ h => h.it)
            have Hy := hid hy
            have Htl := hid htl
            obtain ⟨l2, Hl2⟩ : ∃ x, Hid (l.eraseIdx t = x) := ⟨_, hid rfl⟩
            obtain ⟨s2, Hs2⟩ : ∃ x, Hid (ys = x) := ⟨_, hid rfl⟩
            have hpm : Hid (l2.Perm s2) := hid (by rw [← Hl2.out, ← Hs2.out]; have h1 := (Pil.erase_perm Hnd.out Hy.out).trans (Pil.perm_del HP.out y.1); rwa [Pil.del_head Hss.out.nd] at h1)
            have hlen : l2.length ≤ k + 1 := by rw [← Hl2.out]; rw [List.length_eraseIdx_of_lt Htl.out]; omega
            rw [Hl2.out] at W
            unfold ItRet at W
            have hys : ys = s2 := Hs2.out
            subst hys
            clear TP hy ht b6 X5 B5
            go_wp2_with fail
            refine (W.out).mono ?_
            rintro e w7 ⟨A7, c7, rfl, r7, hc7, ha7, b7⟩
            have X7 := hid (X6.out.up b7 r7 (.inr ha7))
            have B7 := hid (below2 B6.out b7)
            have HC7 := hid hc7
            clear W r7 ha7 b7 hc7 X6 B6
            have hle := hpm.out.length_eq
            have L := hid (o_Len X7.out.pl (by omega))
            unfold LnRet at L
            rw [← hle] at L
            clear hle
            go_wp2_with fail
            refine (L.out).mono ?_
            rintro e w8 ⟨rfl, b8⟩
            have HX8 := hid (X7.out.below b8)
            have HB8 := hid (below2 B7.out b8)
            clear b8
            go_wp2_with fail
            exact ⟨⟨k + 1, _, _, _, _, by go_num, by omega, hlen, rfl, HC7.out, hpm, HX8, HB8.out⟩, by simp [intOf]; omega⟩
        have e4 : (kd == 4) = false := by rw [beq_eq_false_iff_ne]; exact h4
        clear h4
        clear g1 g2
        have hpm := HP
        have hlen : l.length ≤ k + 1 := by omega
        have hle := hpm.out.length_eq
        have L := hid (o_Len X3.out.pl (by omega))
        unfold LnRet at L
        rw [← hle] at L
        clear hle
        go_wp2_with fail
        refine (L.out).mono ?_
        rintro e w8 ⟨rfl, b8⟩
        have HX8 := hid (X3.out.below b8)
        have HB8 := hid (below2 B3.out b8)
        clear b8
        go_wp2_with fail
        exact ⟨⟨k + 1, _, _, _, _, by go_num, by omega, hlen, rfl, hlc1, hpm, HX8, HB8.out⟩, by simp [intOf]; omega⟩
    · obtain rfl : k = z0.length := by omega
      clear H
      go_wp2_with fail
      refine (heads _).mono ?_
      rintro e w6 ⟨rfl, b6⟩
      go_wp2_with fail
      go_ret
      exact ⟨rfl, below2 hb b6⟩

/-! ### THE ROW's STEP: WRITTEN OUT: LEAVE IT -/
set_option maxRecDepth 100000 in
theorem lifted (os : Os) (started : os.Started) (H : Type) (enc : TypeId × Value → H) :
    ReturnsInHanded {} Try.checked os 3 .any (Rows.pileLivesSpec.pre6 enc Try.prog Try.f3 Rows.pileLivesRow.domain false) (Rows.pileLivesSpec.post enc Try.prog Try.f3 false true false false) := by
  refine returnsInHanded_of_change (C := Try.checked) own started (by kernel_rfl) Try.func3
    (ChangeSpec.witness6 (enc := enc) (C := Try.checked) false ⟨#[], #[.slice none 0 0], []⟩ 8 (by kernel_rfl) (by kernel_rfl) (by kernel_rfl) (by kernel_rfl)) ?_
  intro W base args ds gs before hval0 hW hcnd _
  have hval : ∀ (j : Nat) t v, Try.f3.params[j]? = some t → args[j]? = some v → Value.okWide Try.prog W .any base t v := hval0
  have hW' := hW
  obtain ⟨p, q, hA0, hV, rfl, hfz, hnd⟩ := hW
  have hA : DataW.TrodAll enc Try.prog W 0 (fun _ => true) true Try.f3.params.toList args.toList ds p := hA0
  rw [Try.params3] at hA hval
  obtain ⟨v0, vs0, d0, ds0, p0, q0, hargs, rfl, rfl, h0, r0⟩ := trodAll_cons hA
  obtain ⟨rfl, rfl, rfl⟩ := trodAll_nil r0
  obtain rfl : args = #[v0] := by cases args; simp_all
  obtain ⟨rfl, rfl⟩ := trodVars_none hV
  obtain ⟨a0, len0, cap0, rfl⟩ := okWide_slice Try.underlying22 (hval 0 22 v0 rfl rfl)
  have k0 := h0
  have lt0 : ∀ x ∈ p0, x.block < W.heap.size := by obtain ⟨m, hm⟩ := k0; exact DataW.trod_lt m _ _ _ hm
  obtain ⟨z0, w0⟩ : ∃ zs, IsRowQ W a0 len0 cap0 zs := by
    obtain ⟨fuel, hf⟩ := h0
    exact open_opq Try.underlying22 Try.underlying28 (by kernel_rfl) (by kernel_rfl) Try.underlying3 Try.underlying3 Try.underlying3 hf
  clear hA0 hval0
  refine (walk a0 len0 cap0 z0 W w0).mono fun e W' ⟨he, bel⟩ => ?_
  subst he
  exact ⟨_, rfl, _, _, _, [], _, [], hW', trodAll_mk1 (shut_bool Try.underlying4 _), (trodAll_cons_mk (Below.trod laidOut (by kernel_rfl) (of_decide_eq_true (by kernel_rfl)) k0 bel lt0) trodAll_mk0), rfl, bel.frame _, fun h => by cases h⟩

theorem over : Rows.pileLivesRow.holds Try.pinned (OpenSpec.ofChange Rows.pileLivesSpec) :=
  OpenClaim.holds_of_wide 3 Try.f3 rfl rfl rfl rfl rfl rfl rfl ⟨rfl, rfl, rfl, rfl, rfl⟩ rfl rfl rfl rfl rfl (by kernel_rfl) Try.func3 (by kernel_rfl)
    (of_decide_eq_true (by kernel_rfl)) (by unfold Func.isWrapper; first | (rw [if_pos (by decide +kernel)]; kernel_rfl) | (rw [if_neg (by decide +kernel)]; exact ⟨rfl, rfl⟩))
    (fun os started H enc _ => lifted os started H enc)

/-- ████ THE STATEMENT ████ -/
theorem proved : Rows.PileLivesSaid := over
#print axioms proved
end Go.Proofs.Ytojballaghkojaa.pileLives

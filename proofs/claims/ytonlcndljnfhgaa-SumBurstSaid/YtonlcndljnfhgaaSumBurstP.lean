/- Proves 'SumBurstSaid': for every input the Go function SumBurst returns true, and each argument reads afterwards as it read before. Conditions: none beyond the row's own. -/
import Derived.Test.YtonlcndljnfhgaaRows
import Derived.WalkKit
import Derived.ProofKit
import Derived.OpenShut
import Derived.ShutString
import Derived.SliceStrings
import Derived.ChangeOld
import Derived.Below
import Derived.Test.YtonlcndljnfhgaaSumH
namespace Go.Proofs.Ytonlcndljnfhgaa.sumBurst
open Go.ChangeShapes Go.WideShapes Go.ChangeAt Go.RowKit
open Go.ChangeMaps (open_string shut_string)
set_option linter.unusedVariables false

theorem own : ownKnob Try.prog.godebug = none := by kernel_rfl
theorem laidOut : laidOutB Try.prog = true := by kernel_rfl

/-- WHAT THE WALK IS TOLD OF A SLICE OF INTEGERS THAT CAME IN: it is nil; or it leads to a row of 'cap' cells, the numbers 'zs' (the first 'len' are its elements, the rest its spare room), each fitting its kind. -/
def IsRow (k : IntKind) (w : World) (a : Option Addr) (len cap : Nat) (zs : List Int) : Prop :=
  (a = none ∧ len = 0 ∧ cap = 0 ∧ zs = []) ∨
  ∃ x, a = some x ∧ len ≤ cap ∧ cap ≤ maxLen ∧ zs.length = cap ∧ (∀ i, i < zs.length → w.cell? (x.add i) = some (.int k (zs.getD i 0))) ∧ ∀ n ∈ zs, (Lit.int k n).wf = true

theorem xor_bit : ∀ (x : Fin 256) (k : Fin 8), bits BinOp.xor IntKind.u8 (x.val : Int) (2 ^ k.val % 256) = ((x.val ^^^ 2 ^ k.val : Nat) : Int) := by decide +kernel

/-! ### STEP 1: THE WALK: the Go text returns true, AND WRITES NOTHING THAT WAS THERE: 'Below w.heap.size w w'' (Derived/Below.lean: '.refl', '.alloc', '.drew', '.setCell' at a new block, '.trans'). Open each 'IsRow' by 'rcases' AHEAD of 'go_enter'; part every test ahead of the walk. -/
set_option maxHeartbeats 400000 in
theorem walk (a0 : Option Addr) (len0 cap0 : Nat) (z0 : List Int) (a1 : Int) (a2 : Int) (w : World) (w0 : IsRow .u8 w a0 len0 cap0 z0) (w1 : (Lit.int .i64 a1).wf = true) (w2 : (Lit.int .u32 a2).wf = true) :
    Calls Try.prog 7 #[.slice a0 len0 cap0, .int .i64 a1, .int .u32 a2] w fun e w' => e = .returned (.bool true) ∧ Below w.heap.size w w' := by
  obtain ⟨b, hl, hbyt, hlc, hcm⟩ := open_byt w0
  obtain ⟨k1, k2⟩ := bounds_i64 w1
  obtain ⟨u1, u2⟩ := bounds_u32 w2
  obtain ⟨t, rfl⟩ := Int.eq_ofNat_of_zero_le u1
  clear w0
  by_cases hbig : 2000 < len0
  · have hbig' : (2000 : Int) < len0 := by omega
    go_enter Try.func7, Try.ntmps7
    go_wp2_with fail
    refine (heads _).mono ?_
    rintro e w' ⟨rfl, b⟩
    go_wp2_with fail
    go_ret
    exact ⟨rfl, b⟩
  have hbig' : ¬ (2000 : Int) < len0 := by omega
  have C1 := hid (p_Seal a0 len0 cap0 b hl hlc (by omega) w _ (Nat.le_refl _) hbyt)
  have hsl := Sum.seal_len b
  rw [hl] at hsl
  unfold BRet at C1
  rw [hsl] at C1
  have HB := hid (fun (w' : World) (hb : Below w.heap.size w w') => hbyt.below hb (Nat.le_refl _))
  by_cases hin : a1 < 0 ∨ 8 * ((len0 : Int) + 4) ≤ a1
  · have hin1 : a1 < 0 ∨ ¬ a1 < 0 := by omega
    rcases hin1 with h1 | h1
    · go_enter Try.func7, Try.ntmps7
      go_wp2_with fail
      refine (C1.out).mono ?_
      rintro e v1 ⟨A1, c1, rfl, _, _, b1⟩
      go_wp2_with fail
      refine (heads _).mono ?_
      rintro e w' ⟨rfl, b2⟩
      go_wp2_with fail
      go_ret
      exact ⟨rfl, below2 b1 b2⟩
    · have h2 : 8 * ((len0 : Int) + 4) ≤ a1 := by omega
      clear hin
      go_enter Try.func7, Try.ntmps7
      go_wp2_with fail
      refine (C1.out).mono ?_
      rintro e v1 ⟨A1, c1, rfl, _, _, b1⟩
      go_wp2_with fail
      refine (heads _).mono ?_
      rintro e w' ⟨rfl, b2⟩
      go_wp2_with fail
      go_ret
      exact ⟨rfl, below2 b1 b2⟩
  obtain ⟨f, rfl⟩ := Int.eq_ofNat_of_zero_le (show 0 ≤ a1 by omega)
  have f1 : ¬ (f : Int) < 0 := by omega
  have f2 : ¬ 8 * ((len0 : Int) + 4) ≤ f := by omega
  have f3 : f < 8 * (len0 + 4) := by omega
  have Hos := hid (Sum.open_seal b)
  have Hdone := hid (fun (Y : List UInt8) (i : Nat) (h : Sum.Burst (Sum.seal_ b) Y f t i) (hY : Y.length = len0 + 4) (hi : i ≤ 32) (hne : Y ≠ Sum.seal_ b) => Sum.Burst.done h (by rw [hY, hsl]) hi (by omega) hne)
  have Hopen := hid (fun (Y : List UInt8) (hY : Y.length = len0 + 4) A c (hc : len0 + 4 ≤ c) (w : World) (h : Byt w w.heap.size A Y) => p_Open A (len0 + 4) c Y hY hc (by omega) w _ (Nat.le_refl _) h)
  unfold OpRet at Hopen
  have Sm := hid (fun (A A' : Option Addr) (n n' c c' : Nat) (l l' : List UInt8) (hn : l.length = n) (hn' : l'.length = n') (B B' : Nat) (w : World) (h : Byt w B A l) (h' : Byt w B' A' l') => p_Same A A' n n' c c' l l' hn hn' B B' w h h')
  unfold BoolRet at Sm
  generalize Sum.seal_ b = X at *
  obtain ⟨i0, hi, hz0, hz1, hz2⟩ := info_parts Try.info_u8
  have q1 : 0 + (len0 + 4) ≤ maxLen := by unfold maxLen; omega
  have q2 : (0 + (len0 + 4)) * 1 ≤ 140737488355328 := by omega
  clear hin hbyt
  go_enter Try.func7, Try.ntmps7
  go_wp2_with fail
  refine (C1.out).mono ?_
  rintro e v1 ⟨A1, c1, rfl, s1, _, b1⟩
  have hb0 : Below v1.heap.size v1 (v1.alloc (.cells #[] 5)) := below_alloc v1 _
  have hown0 := World.ownsRow_lit (base := v1.heap.size) (e := 5) (size := 1) v1 #[] 0 (Nat.le_refl _) (Nat.zero_le _) rfl
  have S0 := src_byt (P := Try.prog) (v1.alloc (.cells #[] 5)) Try.underlying22 (c := c1) hsl (s1.below hb0 (Nat.le_refl _))
  have S1 := hid s1
  clear s1
  go_wp2_with (at_builtin; refine wpList_append_own_src rfl (.tmp 45) (.tmp 46) 22 22 rfl v1.heap.size 5 i0 (.int .u8 0) 1 Try.underlying22 hi hz0 hz1 hz2 rfl v1.heap.size 0 0 [] rfl hown0 _ _ _ rfl S0 q1 q2 hb0.size ?_; intro g cp v2 hown2 hgr2)
  have hb2 : Below v1.heap.size v1 v2 := hb0.grown hgr2 hb0.size (fun k hk => by injection hk with hk; subst hk; exact Nat.le_refl _)
  rw [Nat.zero_add, List.nil_append] at hown2
  clear hown0 S0 hgr2
  go_wp2_with fail
  go_loopw [9] (fun iv wr => ∃ (i : Nat) (Y : List UInt8), iv = .int .i64 i ∧ i ≤ 32 ∧ f + i ≤ 8 * (len0 + 4) ∧ Hid (Sum.Burst X Y f t i) ∧ Y.length = len0 + 4 ∧ wr.ownsRow v1.heap.size 5 1 (.slice (some ⟨g, 0, none⟩) (len0 + 4) cp) (len0 + 4) (Y.map bcell) ∧ Below v1.heap.size v1 wr) (fun iv _ => 32 - (intOf iv).toNat)
  case atStart => exact ⟨0, X, rfl, by omega, by omega, Sum.Burst.start X f t, hsl, hown2, hb2⟩
  case round =>
    clear hown2 hb2
    obtain ⟨i, Y, rfl, hi32, hfi, hbu, hY, hown, hb⟩ := hrel
    by_cases hgo : i < 32 ∧ f + i < 8 * (len0 + 4)
    · have g1 : (i : Int) < 32 := by omega
      have g2 : (f : Int) + i < 8 * ((len0 : Int) + 4) := by omega
      have hlt : (f + i) / 8 < Y.length := by omega
      obtain ⟨x, hx⟩ : ∃ x, Y.getD ((f + i) / 8) 0 = x := ⟨_, rfl⟩
      have hget := hown.cellAt ((f + i) / 8) (by omega)
      have hfz := hown.frozenAt ((f + i) / 8)
      rw [List.getElem?_map, List.getElem?_eq_getElem hlt, show Y[(f + i) / 8] = x by rw [← hx, List.getD_eq_getElem?_getD, List.getElem?_eq_getElem hlt]; rfl] at hget
      replace hget : wr.cell? ⟨g, (f + i) / 8, none⟩ = some (.int .u8 (x.toNat : Int)) := hget
      have hb1 : ((t : Int) / 2 ^ i).tmod 2 = ((t / 2 ^ i % 2 : Nat) : Int) := by
        have e : (t : Int) / 2 ^ i = ((t / 2 ^ i : Nat) : Int) := by push_cast; rfl
        rw [e]
        generalize t / 2 ^ i = q
        rw [Int.tmod_eq_emod_of_nonneg (Int.natCast_nonneg q)]
        omega
      have Hown := hid hown
      have Hx := hid hx
      clear hown hx
      by_cases hbit : t / 2 ^ i % 2 = 1
      · have hbt : (((t : Int) / 2 ^ i).tmod 2 == 1) = true := by rw [hb1, hbit]; rfl
        have hx8 := x.toNat_lt
        have hlt2 : x.toNat ^^^ 2 ^ ((f + i) % 8) < 256 := Nat.xor_lt_two_pow (n := 8) hx8 (Nat.pow_lt_pow_right (by decide) (by omega))
        have hE := xor_bit ⟨x.toNat, hx8⟩ ⟨(f + i) % 8, by omega⟩
        simp only [] at hE
        obtain ⟨y, hy⟩ : ∃ y : UInt8, y.toNat = x.toNat ^^^ 2 ^ ((f + i) % 8) := ⟨UInt8.ofNat (x.toNat ^^^ 2 ^ ((f + i) % 8)), toNat_of _ hlt2⟩
        rw [← hy] at hE
        have Hb := hid (hbu.out.turn hbit (by omega) y (by rw [Hx.out]; exact hy))
        have hst := World.ownsRow.stored Hown.out ((f + i) / 8) (bcell y)
        rw [← List.map_set] at hst
        have Hst := hid hst
        clear hb1 hbit hst hy hlt2
        go_wp2_with fail
        refine ⟨⟨i + 1, Y.set ((f + i) / 8) y, by go_num, by omega, by omega, Hb.out, by rw [List.length_set]; exact hY, Hst.out.1, hb.setCell (p := ⟨g, (f + i) / 8, none⟩) ((Hown.out.lt g rfl).1) _⟩, by simp [intOf]; omega⟩
      · have hbt : (((t : Int) / 2 ^ i).tmod 2 == 1) = false := by rw [hb1, show t / 2 ^ i % 2 = 0 by omega]; rfl
        have Hb := hid (hbu.out.keep (show t / 2 ^ i % 2 = 0 by omega))
        clear hb1 hbit hget hfz
        go_wp2_with fail
        refine ⟨⟨i + 1, Y, by go_num, by omega, by omega, Hb.out, hY, Hown.out, hb⟩, by simp [intOf]; omega⟩
    · have Hd := hid (fun hne => Hdone.out Y i hbu.out hY hi32 hne)
      have Ho := hid (fun w' h' => Hopen.out Y hY (some ⟨g, 0, none⟩) cp (by
        rcases hown.2 with ⟨hv, _⟩ | ⟨_, _, _, hv, _, _, hle, _⟩
        · injection hv with h1; cases h1
        · injection hv with _ _ h3; omega) w' h')
      have hYr : Byt wr wr.heap.size (some ⟨g, 0, none⟩) Y := Rd.of_own hown
      have HY := hid hYr
      have Hs := hid (fun (B : Nat) (w' : World) (h' : Byt w' B (some ⟨g, 0, none⟩) Y) (h : Byt w' v1.heap.size A1 X) => Sm.out A1 (some ⟨g, 0, none⟩) (len0 + 4) (len0 + 4) c1 cp X Y hsl hY v1.heap.size B w' h h')
      have g3 : ¬ (i : Int) < 32 ∨ ((i : Int) < 32 ∧ ¬ (f : Int) + i < 8 * ((len0 : Int) + 4)) := by omega
      clear hown hYr hgo
      by_cases hXY : X = Y
      · subst hXY
        rw [Hos.out] at Ho
        rw [decide_eq_true rfl] at Hs
        rcases g3 with g3 | ⟨g3, g4⟩
        all_goals
          go_wp2_with fail
          refine (Ho.out _ HY.out).mono ?_
          rintro e v3 ⟨A3, c3, rfl, s3, b3⟩
          have bb : Below v1.heap.size v1 v3 := (hb.trans (b3.mono hb.size))
          have G := hid (Hs.out _ v3 (HY.out.below b3 (Nat.le_refl _)) (S1.out.below bb (Nat.le_refl _)))
          have G2 := hid (Sm.out A3 a0 len0 len0 c3 cap0 b b hl hl _ _ v3 s3 (HB.out v3 (below2 b1 bb)))
          rw [decide_eq_true rfl] at G2
          clear s3
          go_wp2_with fail
          refine (G.out).mono ?_
          rintro e w' ⟨rfl, rfl⟩
          go_wp2_with fail
          refine (G2.out).mono ?_
          rintro e w' ⟨rfl, rfl⟩
          go_wp2_with fail
          refine (heads _).mono ?_
          rintro e w' ⟨rfl, b4⟩
          go_wp2_with fail
          go_ret
          exact ⟨rfl, below2 (below2 b1 bb) b4⟩
      · rw [Hd.out (fun h => hXY h.symm)] at Ho
        rw [decide_eq_false hXY] at Hs
        rcases g3 with g3 | ⟨g3, g4⟩
        all_goals
          go_wp2_with fail
          refine (Ho.out _ HY.out).mono ?_
          rintro e v3 ⟨A3, c3, rfl, s3, b3⟩
          have bb : Below v1.heap.size v1 v3 := (hb.trans (b3.mono hb.size))
          have G := hid (Hs.out _ v3 (HY.out.below b3 (Nat.le_refl _)) (S1.out.below bb (Nat.le_refl _)))
          clear s3
          go_wp2_with fail
          refine (G.out).mono ?_
          rintro e w' ⟨rfl, rfl⟩
          go_wp2_with fail
          refine (heads _).mono ?_
          rintro e w' ⟨rfl, b4⟩
          go_wp2_with fail
          go_ret
          exact ⟨rfl, below2 (below2 b1 bb) b4⟩

/-! ### THE ROW's STEP: WRITTEN OUT: LEAVE IT -/
set_option maxRecDepth 100000 in
theorem lifted (os : Os) (started : os.Started) (H : Type) (enc : TypeId × Value → H) :
    ReturnsInHanded {} Try.checked os 7 .any (Rows.sumBurstSpec.pre6 enc Try.prog Try.f7 Rows.sumBurstRow.domain false) (Rows.sumBurstSpec.post enc Try.prog Try.f7 false true false false) := by
  refine returnsInHanded_of_change (C := Try.checked) own started (by kernel_rfl) Try.func7
    (ChangeSpec.witness6 (enc := enc) (C := Try.checked) false ⟨#[], #[.slice none 0 0, .int .i64 0, .int .u32 0], []⟩ 8 (by kernel_rfl) (by kernel_rfl) (by kernel_rfl) (by kernel_rfl)) ?_
  intro W base args ds gs before hval0 hW hcnd _
  have hval : ∀ (j : Nat) t v, Try.f7.params[j]? = some t → args[j]? = some v → Value.okWide Try.prog W .any base t v := hval0
  have hW' := hW
  obtain ⟨p, q, hA0, hV, rfl, hfz, hnd⟩ := hW
  have hA : DataW.TrodAll enc Try.prog W 0 (fun _ => true) true Try.f7.params.toList args.toList ds p := hA0
  rw [Try.params7] at hA hval
  obtain ⟨v0, vs0, d0, ds0, p0, q0, hargs, rfl, rfl, h0, r0⟩ := trodAll_cons hA
  obtain ⟨v1, vs1, d1, ds1, p1, q1, rfl, rfl, rfl, h1, r1⟩ := trodAll_cons r0
  obtain ⟨v2, vs2, d2, ds2, p2, q2, rfl, rfl, rfl, h2, r2⟩ := trodAll_cons r1
  obtain ⟨rfl, rfl, rfl⟩ := trodAll_nil r2
  obtain rfl : args = #[v0, v1, v2] := by cases args; simp_all
  obtain ⟨rfl, rfl⟩ := trodVars_none hV
  obtain ⟨a0, len0, cap0, rfl⟩ := okWide_slice Try.underlying22 (hval 0 22 v0 rfl rfl)
  have k0 := h0
  have lt0 : ∀ x ∈ p0, x.block < W.heap.size := by obtain ⟨m, hm⟩ := k0; exact DataW.trod_lt m _ _ _ hm
  obtain ⟨z0, w0⟩ : ∃ zs, IsRow .u8 W a0 len0 cap0 zs := by
    obtain ⟨fuel, hf⟩ := h0
    rcases open_ints Try.underlying22 Try.underlying5 (by kernel_rfl) hf with ⟨hcs, _⟩ | ⟨x, l, c, zs, hcs, _, hl, hm, hz, _, hcell, hwz⟩
    · simp [Value.cells] at hcs
      obtain ⟨rfl, rfl, rfl⟩ := hcs
      exact ⟨[], .inl ⟨rfl, rfl, rfl, rfl⟩⟩
    · simp [Value.cells] at hcs
      obtain ⟨rfl, rfl, rfl⟩ := hcs
      exact ⟨zs, .inr ⟨_, rfl, hl, hm, by simpa using hz, hcell, hwz⟩⟩
  obtain ⟨a1, rfl, rfl, rfl, w1⟩ := open_int Try.underlying3 (hval 1 3 v1 rfl rfl) h1
  obtain ⟨a2, rfl, rfl, rfl, w2⟩ := open_int Try.underlying32 (hval 2 32 v2 rfl rfl) h2
  clear hA0 hval0
  refine (walk a0 len0 cap0 z0 a1 a2 W w0 w1 w2).mono fun e W' ⟨he, bel⟩ => ?_
  subst he
  exact ⟨_, rfl, _, _, _, [], _, [], hW', trodAll_mk1 (shut_bool Try.underlying4 _), (trodAll_cons_mk (Below.trod laidOut (by kernel_rfl) (of_decide_eq_true (by kernel_rfl)) k0 bel lt0) (trodAll_cons_mk (shut_int Try.underlying3 w1) (trodAll_cons_mk (shut_int Try.underlying32 w2) trodAll_mk0))), rfl, bel.frame _, fun h => by cases h⟩

theorem over : Rows.sumBurstRow.holds Try.pinned (OpenSpec.ofChange Rows.sumBurstSpec) :=
  OpenClaim.holds_of_wide 7 Try.f7 rfl rfl rfl rfl rfl rfl rfl ⟨rfl, rfl, rfl, rfl, rfl⟩ rfl rfl rfl rfl rfl (by kernel_rfl) Try.func7 (by kernel_rfl)
    (of_decide_eq_true (by kernel_rfl)) (by unfold Func.isWrapper; first | (rw [if_pos (by decide +kernel)]; kernel_rfl) | (rw [if_neg (by decide +kernel)]; exact ⟨rfl, rfl⟩))
    (fun os started H enc _ => lifted os started H enc)

/-- ████ THE STATEMENT ████ -/
theorem proved : Rows.SumBurstSaid := over
#print axioms proved
end Go.Proofs.Ytonlcndljnfhgaa.sumBurst

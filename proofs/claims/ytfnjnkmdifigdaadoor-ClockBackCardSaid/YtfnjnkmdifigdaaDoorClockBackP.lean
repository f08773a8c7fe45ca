/- Proves 'ClockBackCardSaid': for every input the Go function ClockBack returns true, and each argument reads afterwards as it read before; the card ties the listed variables to the program's text. Conditions: none beyond the row's own (the listed variables of the library read as their text lays them). -/
import Derived.Test.YtfnjnkmdifigdaaDoorTie
import Derived.Test.YtfnjnkmdifigdaaDoorCards
import Derived.WalkKit
import Derived.ProofKit
import Derived.OpenShut
import Derived.ShutString
import Derived.SliceStrings
import Derived.ChangeOld
import Derived.Below
import Derived.LaidMore
import Derived.Lay
import Derived.SevenTiedAt
import Derived.Stop.Joined
import Derived.HandedShaped
import Derived.Test.YtfnjnkmdifigdaaDoorClkZ
namespace Go.Proofs.YtfnjnkmdifigdaaDoor.clockBack
open Go.ChangeShapes Go.WideShapes Go.ChangeAt Go.RowKit
open Go.ChangeMaps (open_string shut_string)
set_option linter.unusedVariables false

theorem own : ownKnob Tryd.prog.godebug = none := by kernel_rfl
theorem laidOut : laidOutB Tryd.prog = true := by kernel_rfl

/-- WHAT THE WALK IS TOLD OF A SLICE OF INTEGERS THAT CAME IN: it is nil; or it leads to a row of 'cap' cells, the numbers 'zs' (the first 'len' are its elements, the rest its spare room), each fitting its kind. -/
def IsRow (k : IntKind) (w : World) (a : Option Addr) (len cap : Nat) (zs : List Int) : Prop :=
  (a = none ∧ len = 0 ∧ cap = 0 ∧ zs = []) ∨
  ∃ x, a = some x ∧ len ≤ cap ∧ cap ≤ maxLen ∧ zs.length = cap ∧ (∀ i, i < zs.length → w.cell? (x.add i) = some (.int k (zs.getD i 0))) ∧ ∀ n ∈ zs, (Lit.int k n).wf = true

/-! ### STEP 1: THE WALK: the Go text returns true, AND WRITES NOTHING THAT WAS THERE: 'Below w.heap.size w w'' (Derived/Below.lean: '.refl', '.alloc', '.drew', '.setCell' at a new block, '.trans'). Open each 'IsRow' by 'rcases' AHEAD of 'go_enter'; part every test ahead of the walk. -/
set_option maxHeartbeats 16000000 in
theorem walk (a0 : Whn.Gr) (a1 : Whn.Wh) (a2 : ByteArray) (w : World) (w0 : Gok a0) (w1 : Wok a1) (w2 : a2.size ≤ maxLen) (hE : Env w) :
    Calls Tryd.prog 3 #[gv a0, wv a1, .string a2] w fun e w' => e = .returned (.bool true) ∧ Below w.heap.size w w' := by
  obtain ⟨l, rfl⟩ : ∃ l, a2 = bs l := ⟨a2.data.toList, (of_bs a2).symm⟩
  have HE := hid hE
  have HH := hid p_heads
  have hsz : (bs l).size = l.length := bs_size l
  obtain ⟨A, W, hA, hW, K, hk0⟩ := (Mem.nil w).one (gc a0) 23
  obtain ⟨B, V, hB, hV, K1, hk1⟩ := K.out.one (wc a1) 26
  clear hE K hk0 hk1
  by_cases h0 : 200 < (bs l).size
  · have f0 : (200 : Int) < (bs l).size := by omega
    go_enter Tryd.func3, Tryd.ntmps3
    go_wp2_with fail
    refine (HH.out _ (HE.out.next K1.out.2)).mono ?_
    rintro e w' ⟨rfl, b⟩
    go_wp2_with fail
    go_ret
    exact ⟨rfl, (K1.out.next b).2⟩
  · have f0 : ¬ (200 : Int) < (bs l).size := by omega
    have H1 := hid (fun w hE => p10_Print a0 a1 w1 w hE)
    have hTl : (Clk.pt a0 a1).length ≤ 300000 := pt_len a0 a1
    have H2 := hid (fun w hE => p10_Parse a0 (Clk.pt a0 a1) hTl w hE)
    have H3 := hid (fun w hE => p10_Parse a0 l (by omega) w hE)
    unfold pzV at H2 H3
    have key1 : (Clk.pt a0 a1 = [] ∧ (Clk.pz a0 (Clk.pt a0 a1)).2 ≠ 0) ∨ (Clk.pt a0 a1 ≠ [] ∧ Clk.pz a0 (Clk.pt a0 a1) = (a1, 0)) := by
      by_cases h : Clk.pt a0 a1 = []
      · exact .inl ⟨h, by rw [h]; exact Clk.pz_nil a0⟩
      · refine .inr ⟨h, Clk.pz_pt ?_⟩
        cases hr : Whn.right a0 a1 with
        | true => rfl
        | false => exact absurd ((Clk.pt_nil a0 a1).2 hr) h
    have key2 : ((Clk.pz a0 l).2 = 0 ∧ Wok (Clk.pz a0 l).1 ∧ Clk.pt a0 (Clk.pz a0 l).1 = l) ∨ ((Clk.pz a0 l).2 ≠ 0 ∧ (Clk.pz a0 l).1 = Whn.zero) := by
      by_cases h : (Clk.pz a0 l).2 = 0
      · obtain ⟨r1, r2⟩ := Clk.pt_pz h
        exact .inl ⟨h, right_wok r1, r2⟩
      · exact .inr ⟨h, Clk.pz_err a0 l h⟩
    generalize Clk.pz a0 (Clk.pt a0 a1) = P at *
    generalize hQ : Clk.pz a0 l = Q at *
    obtain ⟨x, e⟩ := P
    obtain ⟨y, f⟩ := Q
    simp only at H2 H3 key1 key2
    have HY := hid (fun (hy : Wok y) w hE => p10_Print a0 y hy w hE)
    have hq1 := fun X => wh_eql a1 a1 X
    rw [whEq_self] at hq1
    have hq2 := fun X => wh_eql Whn.zero Whn.zero X
    rw [whEq_self] at hq2
    generalize Clk.pt a0 a1 = T at *
    clear h0 hsz w0 w1 w2 hTl hQ
    obtain ⟨g0, g1, g2⟩ := K1.out.gr (B := A) (g := a0) (by simp)
    obtain ⟨c0, c1, c2, c3⟩ := K1.out.wh (B := B) (x := a1) (by simp)
    go_enter Tryd.func3, Tryd.ntmps3
    go_wp2_with fail
    refine (H1.out _ (HE.out.next K1.out.2)).mono ?_
    rintro e Y1 ⟨rfl, b1⟩
    have K2 := K1.out.next b1
    clear g0 g1 g2 c0 c1 c2 c3
    obtain ⟨g0, g1, g2⟩ := K2.gr (B := A) (g := a0) (by simp)
    go_wp2_with fail
    refine (H2.out _ (HE.out.next K2.2)).mono ?_
    rintro e Y2 ⟨rfl, b2⟩
    have K3 := K2.next b2
    obtain ⟨C, U, hC, hU, K4, hk4⟩ := K3.one (wc x) 26
    clear g0 g1 g2
    obtain ⟨g0, g1, g2⟩ := K4.out.gr (B := A) (g := a0) (by simp)
    obtain ⟨c0, c1, c2, c3⟩ := K4.out.wh (B := B) (x := a1) (by simp)
    obtain ⟨d0, d1, d2, d3⟩ := K4.out.wh (B := C) (x := x) (by simp)
    have Hk2 := hid key2
    clear key2
    rcases key1 with ⟨hT, he⟩ | ⟨hT, he⟩
    · have u1 : ((e : Int) == 0) = false := by rw [beq_eq_false_iff_ne]; omega
      have u2 : ((e : Int) != 0) = true := by rw [bne_iff_ne]; omega
      have e1 : (bs T).toList = [] := by rw [hT, list_of]; rfl
      have e2 : (bs T).toList.isEmpty = true := by rw [e1]; rfl
      clear hT he
      go_wp2_with fail
      refine (H3.out _ (HE.out.next K4.out.2)).mono ?_
      rintro e Y3 ⟨rfl, b3⟩
      have K5 := K4.out.next b3
      obtain ⟨D, Z, hD, hZ, K6, hk6⟩ := K5.one (wc y) 26
      clear g0 g1 g2 c0 c1 c2 c3 d0 d1 d2 d3
      obtain ⟨g0, g1, g2⟩ := K6.out.gr (B := A) (g := a0) (by simp)
      obtain ⟨c0, c1, c2, c3⟩ := K6.out.wh (B := D) (x := y) (by simp)
      rcases Hk2.out with ⟨k1, k2, k3⟩ | ⟨k1, k2⟩
      · subst k1
        have HY1 := hid (HY.out k2)
        rw [k3] at HY1
        clear k2 k3 hq1 hq2
        go_wp2_with fail
        refine (HY1.out _ (HE.out.next K6.out.2)).mono ?_
        rintro e Y4 ⟨rfl, b4⟩
        have K7 := K6.out.next b4
        go_wp2_with fail
        refine (HH.out _ (HE.out.next K7.2)).mono ?_
        rintro e Y5 ⟨rfl, b5⟩
        go_wp2_with fail
        go_ret
        exact ⟨rfl, (K7.next b5).2⟩
      · subst k2
        have z1 : ((f : Int) == 0) = false := by rw [beq_eq_false_iff_ne]; omega
        have z2 : ((f : Int) != 0) = true := by rw [bne_iff_ne]; omega
        clear k1 hq1
        go_wp2_with fail
        refine (HH.out _ (HE.out.next K6.out.2)).mono ?_
        rintro e Y5 ⟨rfl, b5⟩
        go_wp2_with fail
        go_ret
        exact ⟨rfl, (K6.out.next b5).2⟩
    · injection he with hx he
      subst hx
      subst he
      have e1 : ¬ (bs T).toList = [] := fun e => hT (by rw [list_of] at e; exact e)
      have e2 : (bs T).toList.isEmpty = false := by rw [Bool.eq_false_iff]; intro h; exact e1 (List.isEmpty_iff.1 h)
      clear hT
      go_wp2_with fail
      refine (H3.out _ (HE.out.next K4.out.2)).mono ?_
      rintro e Y3 ⟨rfl, b3⟩
      have K5 := K4.out.next b3
      obtain ⟨D, Z, hD, hZ, K6, hk6⟩ := K5.one (wc y) 26
      clear g0 g1 g2 c0 c1 c2 c3 d0 d1 d2 d3
      obtain ⟨g0, g1, g2⟩ := K6.out.gr (B := A) (g := a0) (by simp)
      obtain ⟨c0, c1, c2, c3⟩ := K6.out.wh (B := D) (x := y) (by simp)
      rcases Hk2.out with ⟨k1, k2, k3⟩ | ⟨k1, k2⟩
      · subst k1
        have HY1 := hid (HY.out k2)
        rw [k3] at HY1
        clear k2 k3 hq1 hq2
        go_wp2_with fail
        refine (HY1.out _ (HE.out.next K6.out.2)).mono ?_
        rintro e Y4 ⟨rfl, b4⟩
        have K7 := K6.out.next b4
        go_wp2_with fail
        refine (HH.out _ (HE.out.next K7.2)).mono ?_
        rintro e Y5 ⟨rfl, b5⟩
        go_wp2_with fail
        go_ret
        exact ⟨rfl, (K7.next b5).2⟩
      · subst k2
        have z1 : ((f : Int) == 0) = false := by rw [beq_eq_false_iff_ne]; omega
        have z2 : ((f : Int) != 0) = true := by rw [bne_iff_ne]; omega
        clear k1 hq1
        go_wp2_with fail
        refine (HH.out _ (HE.out.next K6.out.2)).mono ?_
        rintro e Y5 ⟨rfl, b5⟩
        go_wp2_with fail
        go_ret
        exact ⟨rfl, (K6.out.next b5).2⟩

theorem lift_and_shaped {H : Type} {enc : TypeId × Value → H} {a : Assume} {C : Checked} {os : Os} {f : FuncId} {fn : Func} {s : ChangeSpec} {conds : List PathCond} {apart fresh handsOn again : Bool} {X : World → Array Value → Prop}
    (hX : ∀ (w w' : World) (args : Array Value), w.heap = w'.heap → X w args → X w' args)
    (own : ownKnob C.prog.godebug = none) (started : os.Started) (noInit : C.prog.inits.idxOf? f = none) (hfn : C.prog.funcs[f]? = some fn)
    (witness : ∃ (w : World) (tape : Tape) (i : Input), w.os = os ∧ (w.forCall tape i).Shaped C.prog ∧ i.vars = [] ∧ Input.okWide C.prog (w.forCall tape i) .any w.heap.size f i ∧
      ((s.pre enc C.prog fn conds apart (w.forCall tape i).memory i.args ∧ X (w.forCall tape i).memory i.args) ∧ sizedMet enc C.prog fn (OpenSpec.ofChange s) apart (w.forCall tape i).memory i.args) ∧ a.holds C.prog (lone (Frame.enter C.prog f i.args .normal) [] (w.forCall tape i)))
    (contract : ∀ (W : World) (base : Nat) (args : Array Value) (ds gs : List (DataW H)) (before : List MemPlace),
      (∀ (j : Nat) t v, fn.params[j]? = some t → args[j]? = some v → Value.okWide C.prog W .any base t v) →
      DataW.Whole enc C.prog fn.params.toList s.vars apart W args.toList ds gs before → W.ShapedOpen C.prog → X W args →
      Calls C.prog f args W fun e W' => ∃ v, e = .returned v ∧ s.post enc C.prog fn apart fresh handsOn again W args v W') :
    ReturnsInHanded a C os f .any (fun w args => (s.pre enc C.prog fn conds apart w args ∧ X w args) ∧ sizedMet enc C.prog fn (OpenSpec.ofChange s) apart w args) (s.post enc C.prog fn apart fresh handsOn again) := by
  refine returnsInHanded_of_calls own started noInit witness ?_
  intro w tape i _ hsh _ hok hpre hholds
  obtain ⟨_, _, _, fn', hfn', _, _, _, _, hval⟩ := hok
  have e : fn' = fn := Option.some.inj (hfn'.symm.trans hfn)
  subst e
  obtain ⟨⟨⟨ds, gs, before, hw, hc⟩, hx⟩, hz⟩ := hpre
  have hw' := DataW.Whole.of_heap (w' := w.forCall tape i) (by rfl) hw
  refine (contract (w.forCall tape i) w.heap.size i.args ds gs before hval hw' hsh (hX _ _ _ (by rfl) hx)).mono fun e W' ⟨v, he, hp⟩ => ?_
  subst he
  exact ChangeSpec.post_blind hp

/-! ### THE ROW's STEP: WRITTEN OUT: LEAVE IT -/
set_option maxRecDepth 100000 in
theorem lifted (os : Os) (started : os.Started) (H : Type) (enc : TypeId × Value → H) :
    ReturnsInHanded {} Tryd.checked os 3 .any (fun w args => (Rows.clockBackSpec.pre enc Tryd.prog Tryd.f3 Rows.clockBackRow.domain false w args ∧ laidMetH Tryd.prog Rows.clockBackRow.laid w) ∧ sizedMet enc Tryd.prog Tryd.f3 (OpenSpec.ofChange Rows.clockBackSpec) false w args)
      (Rows.clockBackSpec.post enc Tryd.prog Tryd.f3 false true false false) := by
  refine lift_and_shaped (C := Tryd.checked) (X := fun w _ => laidMetH Tryd.prog Rows.clockBackRow.laid w) (fun _ _ _ hh h => h.of_heap hh) own started (by kernel_rfl) Tryd.func3
    (ChangeSpec.witness_shaped (enc := enc) (C := Tryd.checked) (os := os) (X := fun w _ => laidMetH Tryd.prog Rows.clockBackRow.laid w) false (World.laidAll Tryd.prog os Rows.clockBackRow.laid) #[.agg #[.int .i64 0, .int .i64 0, .int .i64 0], .agg #[.int .u32 0, .int .u8 0, .int .i64 0, .int .i64 0], .string ByteArray.empty] 8 (World.laidAll_os _ _ _)
      (World.shaped_of_ZipB (by kernel_rfl) (by kernel_rfl)) (by kernel_rfl) (by kernel_rfl) (by kernel_rfl)
      (by rw [MakeChecks.laidMetH_plain _ _ _ (by kernel_rfl)]; exact laidMet_laidAll _ (by kernel_rfl) (by kernel_rfl))) ?_
  intro W base args ds gs before hval0 hW hsh hL
  have hval : ∀ (j : Nat) t v, Tryd.f3.params[j]? = some t → args[j]? = some v → Value.okWide Tryd.prog W .any base t v := hval0
  have hW' := hW
  obtain ⟨p, q, hA0, hV, rfl, hfz, hnd⟩ := hW
  have hA : DataW.TrodAll enc Tryd.prog W 0 (fun _ => true) true Tryd.f3.params.toList args.toList ds p := hA0
  rw [Tryd.params3] at hA hval
  obtain ⟨v0, vs0, d0, ds0, p0, q0, hargs, rfl, rfl, h0, r0⟩ := trodAll_cons hA
  obtain ⟨v1, vs1, d1, ds1, p1, q1, rfl, rfl, rfl, h1, r1⟩ := trodAll_cons r0
  obtain ⟨v2, vs2, d2, ds2, p2, q2, rfl, rfl, rfl, h2, r2⟩ := trodAll_cons r1
  obtain ⟨rfl, rfl, rfl⟩ := trodAll_nil r2
  obtain rfl : args = #[v0, v1, v2] := by cases args; simp_all
  obtain ⟨rfl, rfl⟩ := trodVars_none hV
  have k0 := h0
  have lt0 : ∀ x ∈ p0, x.block < W.heap.size := by obtain ⟨m, hm⟩ := k0; exact DataW.trod_lt m _ _ _ hm
  obtain ⟨a0, rfl, w0⟩ := open_gr (hval 0 23 v0 rfl rfl) h0
  have k1 := h1
  have lt1 : ∀ x ∈ p1, x.block < W.heap.size := by obtain ⟨m, hm⟩ := k1; exact DataW.trod_lt m _ _ _ hm
  obtain ⟨a1, rfl, w1⟩ := open_wh (hval 1 26 v1 rfl rfl) h1
  obtain ⟨a2, rfl, rfl, rfl, w2⟩ := open_string Tryd.underlying9 (hval 2 9 v2 rfl rfl) h2
  clear hA0 hval0
  have hE : Env W := env_of hL hsh
  refine (walk a0 a1 a2 W w0 w1 w2 hE).mono fun e W' ⟨he, bel⟩ => ?_
  subst he
  exact ⟨_, rfl, _, _, _, [], _, [], hW', trodAll_mk1 (shut_bool Tryd.underlying4 _), (trodAll_cons_mk (Below.trod laidOut (by kernel_rfl) (of_decide_eq_true (by kernel_rfl)) k0 bel lt0) (trodAll_cons_mk (Below.trod laidOut (by kernel_rfl) (of_decide_eq_true (by kernel_rfl)) k1 bel lt1) (trodAll_cons_mk (shut_string Tryd.underlying9 w2) trodAll_mk0))), rfl, bel.frame _, fun h => by cases h⟩

theorem over : Rows.clockBackRow.holds Tryd.pinned (OpenSpec.ofChange Rows.clockBackSpec) :=
  OpenClaim.holds_of_wide 3 Tryd.f3 rfl rfl rfl rfl rfl rfl rfl ⟨rfl, rfl, rfl, rfl, rfl⟩ rfl rfl rfl rfl rfl (by kernel_rfl) Tryd.func3 (by kernel_rfl)
    (of_decide_eq_true (by kernel_rfl)) (by unfold Func.isWrapper; first | (rw [if_pos (by decide +kernel)]; kernel_rfl) | (rw [if_neg (by decide +kernel)]; exact ⟨rfl, rfl⟩))
    (fun os started H enc _ => lifted os started H enc)

theorem proved : Rows.ClockBackCardSaid :=
  Claim7.holds_tied_plain_at .later [] [.data] true (true, "a675b837898d5ebdf6a8839cc5c72a958caef760fb373e634fc92a19661b7335") false over (fun _ h => by cases h) (by kernel_rfl) (fun _ h => by cases h) clockBack_row_tie rfl ⟨rfl, rfl⟩ (by kernel_rfl) rfl
    (fun f fn hf hfn => by
      obtain rfl : f = 3 := Option.some.inj ((show Tryd.prog.funcNamed "horarium/horariumlaw10.ClockBack" = some 3 by kernel_rfl).symm.trans hf) |>.symm
      obtain rfl : fn = Tryd.f3 := (Option.some.inj (Tryd.func3.symm.trans hfn)).symm
      exact ⟨by kernel_rfl, fun j t ht => by
        rw [Tryd.params3] at ht
        have hm : t ∈ [23, 26, 9] := by simpa using Array.mem_of_getElem? ht
        have hall : ([23, 26, 9].all fun u => !Tryd.prog.wantsStandIn u) = true := by kernel_rfl
        exact (show Tryd.prog.wantsStandIn t = false by simpa using List.all_eq_true.1 hall t hm)⟩)
    (by kernel_rfl)
#print axioms proved
end Go.Proofs.YtfnjnkmdifigdaaDoor.clockBack

/- Proves 'ClockApartCardSaid': for every input the Go function ClockApart returns true, and each argument reads afterwards as it read before; the card ties the listed variables to the program's text. Conditions: none beyond the row's own (the listed variables of the library read as their text lays them). -/
import Derived.Test.YtfnjnkmdifigdaaDoorTie
import Derived.Test.YtfnjnkmdifigdaaDoorCards
import Derived.WalkKit
import Derived.ProofKit
import Derived.OpenShut
import Derived.ShutString
import Derived.SliceStrings
import Derived.ChangeOld
import Derived.Below
import Derived.LaidMore
import Derived.Lay
import Derived.SevenTiedAt
import Derived.Stop.Joined
import Derived.HandedShaped
import Derived.Test.YtfnjnkmdifigdaaDoorClkZ
namespace Go.Proofs.YtfnjnkmdifigdaaDoor.clockApart
open Go.ChangeShapes Go.WideShapes Go.ChangeAt Go.RowKit
open Go.ChangeMaps (open_string shut_string)
set_option linter.unusedVariables false

theorem own : ownKnob Tryd.prog.godebug = none := by kernel_rfl
theorem laidOut : laidOutB Tryd.prog = true := by kernel_rfl

/-- WHAT THE WALK IS TOLD OF A SLICE OF INTEGERS THAT CAME IN: it is nil; or it leads to a row of 'cap' cells, the numbers 'zs' (the first 'len' are its elements, the rest its spare room), each fitting its kind. -/
def IsRow (k : IntKind) (w : World) (a : Option Addr) (len cap : Nat) (zs : List Int) : Prop :=
  (a = none ∧ len = 0 ∧ cap = 0 ∧ zs = []) ∨
  ∃ x, a = some x ∧ len ≤ cap ∧ cap ≤ maxLen ∧ zs.length = cap ∧ (∀ i, i < zs.length → w.cell? (x.add i) = some (.int k (zs.getD i 0))) ∧ ∀ n ∈ zs, (Lit.int k n).wf = true

/-! ### STEP 1: THE WALK: the Go text returns true, AND WRITES NOTHING THAT WAS THERE: 'Below w.heap.size w w'' (Derived/Below.lean: '.refl', '.alloc', '.drew', '.setCell' at a new block, '.trans'). Open each 'IsRow' by 'rcases' AHEAD of 'go_enter'; part every test ahead of the walk. -/
set_option maxHeartbeats 16000000 in
theorem walk (a0 : Whn.Gr) (a1 : Whn.Wh) (a2 : Whn.Wh) (w : World) (w0 : Gok a0) (w1 : Wok a1) (w2 : Wok a2) (hE : Env w) :
    Calls Tryd.prog 8 #[gv a0, wv a1, wv a2] w fun e w' => e = .returned (.bool true) ∧ Below w.heap.size w w' := by
  have HE := hid hE
  have HH := hid p_heads
  obtain ⟨A, W, hA, hW, K, hk0⟩ := (Mem.nil w).one (gc a0) 23
  obtain ⟨B, V, hB, hV, K1, hk1⟩ := K.out.one (wc a1) 26
  obtain ⟨C, U, hC, hU, K2, hk2⟩ := K1.out.one (wc a2) 26
  have H1 := hid (fun w hE => p10_Print a0 a1 w1 w hE)
  have H2 := hid (fun w hE => p10_Print a0 a2 w2 w hE)
  have hq := fun X => wh_eql a1 a2 X
  have hinj := @Clk.pt_inj a0 a1 a2
  have Heq := hid (whEq_iff a1 a2)
  have Hpt := hid (show a1 = a2 → Clk.pt a0 a1 = Clk.pt a0 a2 from fun h => by rw [h])
  generalize Clk.pt a0 a1 = S at *
  generalize Clk.pt a0 a2 = T at *
  have Hinj := hid hinj
  generalize hqq : whEq a1 a2 = q at *
  clear hE K hk0 K1 hk1 hk2 w0 w1 w2 hinj hqq
  obtain ⟨g0, g1, g2⟩ := K2.out.gr (B := A) (g := a0) (by simp)
  obtain ⟨c0, c1, c2, c3⟩ := K2.out.wh (B := B) (x := a1) (by simp)
  obtain ⟨d0, d1, d2, d3⟩ := K2.out.wh (B := C) (x := a2) (by simp)
  go_enter Tryd.func8, Tryd.ntmps8
  go_wp2_with fail
  clear g0 g1 g2 c0 c1 c2 c3 d0 d1 d2 d3
  refine wp_region_held_drew (S := fun X => Mem w X [(C, wc a2, 26), (B, wc a1, 26), (A, gc a0, 23)]) (by kernel_rfl) K2.out.drew (fun hHeld => ?_)
  refine takeH 0 9 (gv a0) rfl rfl (by kernel_rfl) (by kernel_rfl) (by kernel_rfl) (fun _ _ _ h => h) (by kernel_rfl) (fun X hX => by obtain ⟨g0, g1, g2⟩ := hX.gr (B := A) (g := a0) (by simp); clear hX; go_simp) hHeld ?_
  simp only [Act.put, List.setIfInBounds_toArray, List.set_cons_zero, List.set_cons_succ]
  refine takeH 1 10 (wv a1) rfl rfl (by kernel_rfl) (by kernel_rfl) (by kernel_rfl) (fun _ _ _ h => h) (by kernel_rfl) (fun X hX => by obtain ⟨c0, c1, c2, c3⟩ := hX.wh (B := B) (x := a1) (by simp); clear hX; go_simp) hHeld ?_
  simp only [Act.put, List.setIfInBounds_toArray, List.set_cons_zero, List.set_cons_succ]
  refine takeH 3 12 (gv a0) rfl rfl (by kernel_rfl) (by kernel_rfl) (by kernel_rfl) (fun _ _ _ h => h) (by kernel_rfl) (fun X hX => by obtain ⟨g0, g1, g2⟩ := hX.gr (B := A) (g := a0) (by simp); clear hX; go_simp) hHeld ?_
  simp only [Act.put, List.setIfInBounds_toArray, List.set_cons_zero, List.set_cons_succ]
  refine takeH 4 13 (wv a2) rfl rfl (by kernel_rfl) (by kernel_rfl) (by kernel_rfl) (fun _ _ _ h => h) (by kernel_rfl) (fun X hX => by obtain ⟨c0, c1, c2, c3⟩ := hX.wh (B := C) (x := a2) (by simp); clear hX; go_simp) hHeld ?_
  simp only [Act.put, List.setIfInBounds_toArray, List.set_cons_zero, List.set_cons_succ]
  refine wpAnyH_ready (rs := [2]) (by kernel_rfl) (by simp) ?_
  refine AllReadyH.cons rfl (fun KK hK => ?_) AllReadyH.nil
  simp only [List.getElem_toArray, List.getElem_cons_succ, List.getElem_cons_zero]
  go_simp
  refine (H1.out _ (HE.out.next K2.out.drew.2)).mono ?_
  rintro e Y3 ⟨rfl, b3⟩
  have K3 := K2.out.drew.next b3
  refine hK.out _ _ K3 (fun hHeld => ?_)
  clear hK KK
  try simp only [Act.put, List.setIfInBounds_toArray, List.set_cons_zero, List.set_cons_succ]
  refine wpAnyH_ready (rs := [5]) (by kernel_rfl) (by simp) ?_
  refine AllReadyH.cons rfl (fun KK hK => ?_) AllReadyH.nil
  simp only [List.getElem_toArray, List.getElem_cons_succ, List.getElem_cons_zero]
  go_simp
  refine (H2.out _ (HE.out.next K3.2)).mono ?_
  rintro e Y4 ⟨rfl, b4⟩
  have K4 := K3.next b4
  refine hK.out _ _ K4 (fun hHeld => ?_)
  clear hK KK
  try simp only [Act.put, List.setIfInBounds_toArray, List.set_cons_zero, List.set_cons_succ]
  refine takeH 6 7 (txt S) rfl rfl (by kernel_rfl) (by kernel_rfl) (by kernel_rfl) (fun _ _ _ h => h) (by kernel_rfl) (fun X hX => by clear hX; first | rfl | go_simp) hHeld ?_
  simp only [Act.put, List.setIfInBounds_toArray, List.set_cons_zero, List.set_cons_succ]
  refine takeH 7 8 (txt T) rfl rfl (by kernel_rfl) (by kernel_rfl) (by kernel_rfl) (fun _ _ _ h => h) (by kernel_rfl) (fun X hX => by clear hX; first | rfl | go_simp) hHeld ?_
  simp only [Act.put, List.setIfInBounds_toArray, List.set_cons_zero, List.set_cons_succ]
  refine wpAnyH_done (by kernel_rfl) ?_ _
  obtain ⟨c0, c1, c2, c3⟩ := K4.wh (B := B) (x := a1) (by simp)
  obtain ⟨d0, d1, d2, d3⟩ := K4.wh (B := C) (x := a2) (by simp)
  clear H1 H2
  by_cases hS : S = []
  · have e1 : (bs S).toList = [] := by rw [hS, list_of]; rfl
    have e2 : (bs S).toList.isEmpty = true := by rw [e1]; rfl
    clear hS
    go_wp2_with fail
    refine (HH.out _ (HE.out.next K4.2)).mono ?_
    rintro e Y5 ⟨rfl, b5⟩
    go_wp2_with fail
    go_ret
    exact ⟨rfl, (K4.next b5).2⟩
  · have e1 : ¬ (bs S).toList = [] := fun e => hS (by rw [list_of] at e; exact e)
    have e2 : (bs S).toList.isEmpty = false := by rw [Bool.eq_false_iff]; intro h; exact e1 (List.isEmpty_iff.1 h)
    cases q with
    | true =>
      have h12 := Hpt.out (Heq.out.1 rfl)
      subst h12
      clear hS
      go_wp2_with fail
      refine (HH.out _ (HE.out.next K4.2)).mono ?_
      rintro e Y5 ⟨rfl, b5⟩
      go_wp2_with fail
      go_ret
      exact ⟨rfl, (K4.next b5).2⟩
    | false =>
      have h12 : S ≠ T := fun h => by have := Heq.out.2 (Hinj.out hS h); cases this
      have e4 : ¬ (bs S).toList = (bs T).toList := fun h => h12 (bs_inj' h)
      have e3 : ((bs S).toList == (bs T).toList) = false := beq_eq_false_iff_ne.2 e4
      clear hS h12
      go_wp2_with fail
      refine (HH.out _ (HE.out.next K4.2)).mono ?_
      rintro e Y5 ⟨rfl, b5⟩
      go_wp2_with fail
      go_ret
      exact ⟨rfl, (K4.next b5).2⟩

theorem lift_and_shaped {H : Type} {enc : TypeId × Value → H} {a : Assume} {C : Checked} {os : Os} {f : FuncId} {fn : Func} {s : ChangeSpec} {conds : List PathCond} {apart fresh handsOn again : Bool} {X : World → Array Value → Prop}
    (hX : ∀ (w w' : World) (args : Array Value), w.heap = w'.heap → X w args → X w' args)
    (own : ownKnob C.prog.godebug = none) (started : os.Started) (noInit : C.prog.inits.idxOf? f = none) (hfn : C.prog.funcs[f]? = some fn)
    (witness : ∃ (w : World) (tape : Tape) (i : Input), w.os = os ∧ (w.forCall tape i).Shaped C.prog ∧ i.vars = [] ∧ Input.okWide C.prog (w.forCall tape i) .any w.heap.size f i ∧
      ((s.pre enc C.prog fn conds apart (w.forCall tape i).memory i.args ∧ X (w.forCall tape i).memory i.args) ∧ sizedMet enc C.prog fn (OpenSpec.ofChange s) apart (w.forCall tape i).memory i.args) ∧ a.holds C.prog (lone (Frame.enter C.prog f i.args .normal) [] (w.forCall tape i)))
    (contract : ∀ (W : World) (base : Nat) (args : Array Value) (ds gs : List (DataW H)) (before : List MemPlace),
      (∀ (j : Nat) t v, fn.params[j]? = some t → args[j]? = some v → Value.okWide C.prog W .any base t v) →
      DataW.Whole enc C.prog fn.params.toList s.vars apart W args.toList ds gs before → W.ShapedOpen C.prog → X W args →
      Calls C.prog f args W fun e W' => ∃ v, e = .returned v ∧ s.post enc C.prog fn apart fresh handsOn again W args v W') :
    ReturnsInHanded a C os f .any (fun w args => (s.pre enc C.prog fn conds apart w args ∧ X w args) ∧ sizedMet enc C.prog fn (OpenSpec.ofChange s) apart w args) (s.post enc C.prog fn apart fresh handsOn again) := by
  refine returnsInHanded_of_calls own started noInit witness ?_
  intro w tape i _ hsh _ hok hpre hholds
  obtain ⟨_, _, _, fn', hfn', _, _, _, _, hval⟩ := hok
  have e : fn' = fn := Option.some.inj (hfn'.symm.trans hfn)
  subst e
  obtain ⟨⟨⟨ds, gs, before, hw, hc⟩, hx⟩, hz⟩ := hpre
  have hw' := DataW.Whole.of_heap (w' := w.forCall tape i) (by rfl) hw
  refine (contract (w.forCall tape i) w.heap.size i.args ds gs before hval hw' hsh (hX _ _ _ (by rfl) hx)).mono fun e W' ⟨v, he, hp⟩ => ?_
  subst he
  exact ChangeSpec.post_blind hp

/-! ### THE ROW's STEP: WRITTEN OUT: LEAVE IT -/
set_option maxRecDepth 100000 in
theorem lifted (os : Os) (started : os.Started) (H : Type) (enc : TypeId × Value → H) :
    ReturnsInHanded {} Tryd.checked os 8 .any (fun w args => (Rows.clockApartSpec.pre enc Tryd.prog Tryd.f8 Rows.clockApartRow.domain false w args ∧ laidMetH Tryd.prog Rows.clockApartRow.laid w) ∧ sizedMet enc Tryd.prog Tryd.f8 (OpenSpec.ofChange Rows.clockApartSpec) false w args)
      (Rows.clockApartSpec.post enc Tryd.prog Tryd.f8 false true false false) := by
  refine lift_and_shaped (C := Tryd.checked) (X := fun w _ => laidMetH Tryd.prog Rows.clockApartRow.laid w) (fun _ _ _ hh h => h.of_heap hh) own started (by kernel_rfl) Tryd.func8
    (ChangeSpec.witness_shaped (enc := enc) (C := Tryd.checked) (os := os) (X := fun w _ => laidMetH Tryd.prog Rows.clockApartRow.laid w) false (World.laidAll Tryd.prog os Rows.clockApartRow.laid) #[.agg #[.int .i64 0, .int .i64 0, .int .i64 0], .agg #[.int .u32 0, .int .u8 0, .int .i64 0, .int .i64 0], .agg #[.int .u32 0, .int .u8 0, .int .i64 0, .int .i64 0]] 8 (World.laidAll_os _ _ _)
      (World.shaped_of_ZipB (by kernel_rfl) (by kernel_rfl)) (by kernel_rfl) (by kernel_rfl) (by kernel_rfl)
      (by rw [MakeChecks.laidMetH_plain _ _ _ (by kernel_rfl)]; exact laidMet_laidAll _ (by kernel_rfl) (by kernel_rfl))) ?_
  intro W base args ds gs before hval0 hW hsh hL
  have hval : ∀ (j : Nat) t v, Tryd.f8.params[j]? = some t → args[j]? = some v → Value.okWide Tryd.prog W .any base t v := hval0
  have hW' := hW
  obtain ⟨p, q, hA0, hV, rfl, hfz, hnd⟩ := hW
  have hA : DataW.TrodAll enc Tryd.prog W 0 (fun _ => true) true Tryd.f8.params.toList args.toList ds p := hA0
  rw [Tryd.params8] at hA hval
  obtain ⟨v0, vs0, d0, ds0, p0, q0, hargs, rfl, rfl, h0, r0⟩ := trodAll_cons hA
  obtain ⟨v1, vs1, d1, ds1, p1, q1, rfl, rfl, rfl, h1, r1⟩ := trodAll_cons r0
  obtain ⟨v2, vs2, d2, ds2, p2, q2, rfl, rfl, rfl, h2, r2⟩ := trodAll_cons r1
  obtain ⟨rfl, rfl, rfl⟩ := trodAll_nil r2
  obtain rfl : args = #[v0, v1, v2] := by cases args; simp_all
  obtain ⟨rfl, rfl⟩ := trodVars_none hV
  have k0 := h0
  have lt0 : ∀ x ∈ p0, x.block < W.heap.size := by obtain ⟨m, hm⟩ := k0; exact DataW.trod_lt m _ _ _ hm
  obtain ⟨a0, rfl, w0⟩ := open_gr (hval 0 23 v0 rfl rfl) h0
  have k1 := h1
  have lt1 : ∀ x ∈ p1, x.block < W.heap.size := by obtain ⟨m, hm⟩ := k1; exact DataW.trod_lt m _ _ _ hm
  obtain ⟨a1, rfl, w1⟩ := open_wh (hval 1 26 v1 rfl rfl) h1
  have k2 := h2
  have lt2 : ∀ x ∈ p2, x.block < W.heap.size := by obtain ⟨m, hm⟩ := k2; exact DataW.trod_lt m _ _ _ hm
  obtain ⟨a2, rfl, w2⟩ := open_wh (hval 2 26 v2 rfl rfl) h2
  clear hA0 hval0
  have hE : Env W := env_of hL hsh
  refine (walk a0 a1 a2 W w0 w1 w2 hE).mono fun e W' ⟨he, bel⟩ => ?_
  subst he
  exact ⟨_, rfl, _, _, _, [], _, [], hW', trodAll_mk1 (shut_bool Tryd.underlying4 _), (trodAll_cons_mk (Below.trod laidOut (by kernel_rfl) (of_decide_eq_true (by kernel_rfl)) k0 bel lt0) (trodAll_cons_mk (Below.trod laidOut (by kernel_rfl) (of_decide_eq_true (by kernel_rfl)) k1 bel lt1) (trodAll_cons_mk (Below.trod laidOut (by kernel_rfl) (of_decide_eq_true (by kernel_rfl)) k2 bel lt2) trodAll_mk0))), rfl, bel.frame _, fun h => by cases h⟩

theorem over : Rows.clockApartRow.holds Tryd.pinned (OpenSpec.ofChange Rows.clockApartSpec) :=
  OpenClaim.holds_of_wide 8 Tryd.f8 rfl rfl rfl rfl rfl rfl rfl ⟨rfl, rfl, rfl, rfl, rfl⟩ rfl rfl rfl rfl rfl (by kernel_rfl) Tryd.func8 (by kernel_rfl)
    (of_decide_eq_true (by kernel_rfl)) (by unfold Func.isWrapper; first | (rw [if_pos (by decide +kernel)]; kernel_rfl) | (rw [if_neg (by decide +kernel)]; exact ⟨rfl, rfl⟩))
    (fun os started H enc _ => lifted os started H enc)

theorem proved : Rows.ClockApartCardSaid :=
  Claim7.holds_tied_plain_at .later [] [.data] true (true, "a675b837898d5ebdf6a8839cc5c72a958caef760fb373e634fc92a19661b7335") false over (fun _ h => by cases h) (by kernel_rfl) (fun _ h => by cases h) clockApart_row_tie rfl ⟨rfl, rfl⟩ (by kernel_rfl) rfl
    (fun f fn hf hfn => by
      obtain rfl : f = 8 := Option.some.inj ((show Tryd.prog.funcNamed "horarium/horariumlaw10.ClockApart" = some 8 by kernel_rfl).symm.trans hf) |>.symm
      obtain rfl : fn = Tryd.f8 := (Option.some.inj (Tryd.func8.symm.trans hfn)).symm
      exact ⟨by kernel_rfl, fun j t ht => by
        rw [Tryd.params8] at ht
        have hm : t ∈ [23, 26, 26] := by simpa using Array.mem_of_getElem? ht
        have hall : ([23, 26, 26].all fun u => !Tryd.prog.wantsStandIn u) = true := by kernel_rfl
        exact (show Tryd.prog.wantsStandIn t = false by simpa using List.all_eq_true.1 hall t hm)⟩)
    (by kernel_rfl)
#print axioms proved
end Go.Proofs.YtfnjnkmdifigdaaDoor.clockApart

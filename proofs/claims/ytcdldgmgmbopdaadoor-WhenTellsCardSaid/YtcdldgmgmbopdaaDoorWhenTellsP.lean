/- Proves 'WhenTellsCardSaid': for every input the Go function WhenTells returns true, and each argument reads afterwards as it read before; the card ties the listed variables to the program's text. Conditions: none beyond the row's own (the listed variables of the library read as their text lays them). -/
import Derived.Test.YtcdldgmgmbopdaaDoorTie
import Derived.Test.YtcdldgmgmbopdaaDoorCards
import Derived.WalkKit
import Derived.ProofKit
import Derived.OpenShut
import Derived.ShutString
import Derived.SliceStrings
import Derived.ChangeOld
import Derived.Below
import Derived.LaidMore
import Derived.Lay
import Derived.SevenTiedAt
import Derived.Stop.Joined
import Derived.HandedShaped
import Derived.Test.YtcdldgmgmbopdaaDoorWhnI
namespace Go.Proofs.YtcdldgmgmbopdaaDoor.whenTells
open Go.ChangeShapes Go.WideShapes Go.ChangeAt Go.RowKit
open Go.ChangeMaps (open_string shut_string)
set_option linter.unusedVariables false

theorem own : ownKnob Tryd.prog.godebug = none := by kernel_rfl
theorem laidOut : laidOutB Tryd.prog = true := by kernel_rfl

/-- WHAT THE WALK IS TOLD OF A SLICE OF INTEGERS THAT CAME IN: it is nil; or it leads to a row of 'cap' cells, the numbers 'zs' (the first 'len' are its elements, the rest its spare room), each fitting its kind. -/
def IsRow (k : IntKind) (w : World) (a : Option Addr) (len cap : Nat) (zs : List Int) : Prop :=
  (a = none ∧ len = 0 ∧ cap = 0 ∧ zs = []) ∨
  ∃ x, a = some x ∧ len ≤ cap ∧ cap ≤ maxLen ∧ zs.length = cap ∧ (∀ i, i < zs.length → w.cell? (x.add i) = some (.int k (zs.getD i 0))) ∧ ∀ n ∈ zs, (Lit.int k n).wf = true

/-! ### STEP 1: THE WALK: the Go text returns true, AND WRITES NOTHING THAT WAS THERE: 'Below w.heap.size w w'' (Derived/Below.lean: '.refl', '.alloc', '.drew', '.setCell' at a new block, '.trans'). Open each 'IsRow' by 'rcases' AHEAD of 'go_enter'; part every test ahead of the walk. -/
set_option maxHeartbeats 16000000 in
theorem walk (a0 : Whn.Gr) (a1 : Whn.Wh) (w : World) (w0 : Gok a0) (w1 : Wok a1) (hT : Tab w) :
    Calls Tryd.prog 4 #[gv a0, wv a1] w fun e w' => e = .returned (.bool true) ∧ Below w.heap.size w w' := by
  have H1 := hid (fun w => p_RightGrid a0 w)
  have H2 := hid (fun w => r_RightGrid a0 w)
  have H3 := hid (fun w => p_Right a0 a1 w1 w)
  have H4 := hid (fun w => r_Right a0 a1 w1 w)
  have H5 := hid (fun w => p_Moments a0 a1 w1 w)
  have H6 := hid (fun w => r_Moments a0 a1 w1 w)
  have H7 := hid (fun w => p_Count a1 w1 w)
  have H8 := hid (fun w => r_Count a1 w1 w)
  have H9 := hid heads
  unfold ItRet at H5 H6
  have hlen := Whn.moments_len a0 a1
  have HT := hid hT
  generalize Whn.rgrid a0 = r1 at *
  generalize Whn.right a0 a1 = r2 at *
  generalize Whn.moments a0 a1 = L at *
  generalize Whn.count a1 = r3 at *
  have HI := hid (fun (A A' : Option Addr) (c c' : Nat) (X : World) (h : Its X X.heap.size A L) (h' : Its X X.heap.size A' L) => show Calls Tryd.prog 15 #[.slice A L.length c, .slice A' L.length c'] X (BoolDraw true X) from (decide_eq_true (rfl : L = L)) ▸ p_Ints A A' L.length L.length c c' L L rfl rfl X X.heap.size X.heap.size h h' (by unfold maxLen; omega))
  unfold BoolDraw at HI
  obtain ⟨A, W, hA, hW, K, hk0⟩ := (Mem.nil w).one (gc a0) 23
  obtain ⟨B, V, hB, hV, K1, hk1⟩ := K.out.one (wc a1) 26
  have KA := K1.out.drew
  have hS2 := And.intro (KA.gr (B := A) (g := a0) (by simp)) (KA.wh (B := B) (x := a1) (by simp))
  clear K hk0 hk1 w0 w1 hlen hT
  go_enter Tryd.func4, Tryd.ntmps4
  go_wp2_with fail
  go_region_held3 (fun X => (X.cell? ⟨A, 0, none⟩ = some (.int .i64 a0.w) ∧ X.cell? ⟨A, 1, none⟩ = some (.int .i64 a0.d) ∧ X.cell? ⟨A, 2, none⟩ = some (.int .i64 a0.s)) ∧ (X.cell? ⟨B, 0, none⟩ = some (.int .u32 (a1.w : Int)) ∧ X.cell? ⟨B, 1, none⟩ = some (.int .u8 (a1.d : Int)) ∧ X.cell? ⟨B, 2, none⟩ = some (.int .i64 a1.s) ∧ X.cell? ⟨B, 3, none⟩ = some (.int .i64 a1.l))) (exact hS2) (first
    | (go_at_call 16; refine (H1.out _).mono ?_; rintro e Y1 ⟨rfl, b1⟩; have KA := KA.next b1; have hS2 := And.intro (KA.gr (B := A) (g := a0) (by simp)) (KA.wh (B := B) (x := a1) (by simp)))
    | (go_at_call 17; refine (H2.out _).mono ?_; rintro e Y2 ⟨rfl, b2⟩; have KA := KA.next b2; have hS2 := And.intro (KA.gr (B := A) (g := a0) (by simp)) (KA.wh (B := B) (x := a1) (by simp)))
    | (go_at_call 8; refine (H3.out _).mono ?_; rintro e Y3 ⟨rfl, b3⟩; have KA := KA.next b3; have hS2 := And.intro (KA.gr (B := A) (g := a0) (by simp)) (KA.wh (B := B) (x := a1) (by simp)))
    | (go_at_call 18; refine (H4.out _).mono ?_; rintro e Y4 ⟨rfl, b4⟩; have KA := KA.next b4; have hS2 := And.intro (KA.gr (B := A) (g := a0) (by simp)) (KA.wh (B := B) (x := a1) (by simp)))
    | (go_at_call 10; refine (H5.out _).mono ?_; rintro e Y5 ⟨A5, n5, rfl, i5, b5⟩; have KA := KA.next b5; have hS2 := And.intro (KA.gr (B := A) (g := a0) (by simp)) (KA.wh (B := B) (x := a1) (by simp)))
    | (go_at_call 19; refine (H6.out _).mono ?_; rintro e Y6 ⟨A6, n6, rfl, i6, b6⟩; have KA := KA.next b6; have hS2 := And.intro (KA.gr (B := A) (g := a0) (by simp)) (KA.wh (B := B) (x := a1) (by simp)); have HI6 := hid (HI.out A5 A6 n5 n6 Y6 (its_next i5 b6) i6))
    | (go_at_call 15; refine (HI6.out).mono ?_; rintro e Y7 ⟨rfl, m7, rfl⟩; have KA := KA.drewN m7; have hS2 := And.intro (KA.gr (B := A) (g := a0) (by simp)) (KA.wh (B := B) (x := a1) (by simp)))
    | (go_at_call 20; refine (H7.out _).mono ?_; rintro e Y8 ⟨rfl, b8⟩; have KA := KA.next b8; have hS2 := And.intro (KA.gr (B := A) (g := a0) (by simp)) (KA.wh (B := B) (x := a1) (by simp)))
    | (go_at_call 21; refine (H8.out _).mono ?_; rintro e Y9 ⟨rfl, b9⟩; have KA := KA.next b9; have hS2 := And.intro (KA.gr (B := A) (g := a0) (by simp)) (KA.wh (B := B) (x := a1) (by simp)); have HT := hid (HT.out.next KA.2))
    | (go_at_call 9; refine (H9.out _ HT.out).mono ?_; rintro e Y10 ⟨rfl, b10⟩; have KA := KA.next b10; have hS2 := And.intro (KA.gr (B := A) (g := a0) (by simp)) (KA.wh (B := B) (x := a1) (by simp))))
  all_goals
    go_wp2_with fail
    go_ret
    exact ⟨rfl, KA.2⟩

theorem lift_and_shaped {H : Type} {enc : TypeId × Value → H} {a : Assume} {C : Checked} {os : Os} {f : FuncId} {fn : Func} {s : ChangeSpec} {conds : List PathCond} {apart fresh handsOn again : Bool} {X : World → Array Value → Prop}
    (hX : ∀ (w w' : World) (args : Array Value), w.heap = w'.heap → X w args → X w' args)
    (own : ownKnob C.prog.godebug = none) (started : os.Started) (noInit : C.prog.inits.idxOf? f = none) (hfn : C.prog.funcs[f]? = some fn)
    (witness : ∃ (w : World) (tape : Tape) (i : Input), w.os = os ∧ (w.forCall tape i).Shaped C.prog ∧ i.vars = [] ∧ Input.okWide C.prog (w.forCall tape i) .any w.heap.size f i ∧
      ((s.pre enc C.prog fn conds apart (w.forCall tape i).memory i.args ∧ X (w.forCall tape i).memory i.args) ∧ sizedMet enc C.prog fn (OpenSpec.ofChange s) apart (w.forCall tape i).memory i.args) ∧ a.holds C.prog (lone (Frame.enter C.prog f i.args .normal) [] (w.forCall tape i)))
    (contract : ∀ (W : World) (base : Nat) (args : Array Value) (ds gs : List (DataW H)) (before : List MemPlace),
      (∀ (j : Nat) t v, fn.params[j]? = some t → args[j]? = some v → Value.okWide C.prog W .any base t v) →
      DataW.Whole enc C.prog fn.params.toList s.vars apart W args.toList ds gs before → W.ShapedOpen C.prog → X W args →
      Calls C.prog f args W fun e W' => ∃ v, e = .returned v ∧ s.post enc C.prog fn apart fresh handsOn again W args v W') :
    ReturnsInHanded a C os f .any (fun w args => (s.pre enc C.prog fn conds apart w args ∧ X w args) ∧ sizedMet enc C.prog fn (OpenSpec.ofChange s) apart w args) (s.post enc C.prog fn apart fresh handsOn again) := by
  refine returnsInHanded_of_calls own started noInit witness ?_
  intro w tape i _ hsh _ hok hpre hholds
  obtain ⟨_, _, _, fn', hfn', _, _, _, _, hval⟩ := hok
  have e : fn' = fn := Option.some.inj (hfn'.symm.trans hfn)
  subst e
  obtain ⟨⟨⟨ds, gs, before, hw, hc⟩, hx⟩, hz⟩ := hpre
  have hw' := DataW.Whole.of_heap (w' := w.forCall tape i) (by rfl) hw
  refine (contract (w.forCall tape i) w.heap.size i.args ds gs before hval hw' hsh (hX _ _ _ (by rfl) hx)).mono fun e W' ⟨v, he, hp⟩ => ?_
  subst he
  exact ChangeSpec.post_blind hp

/-! ### THE ROW's STEP: WRITTEN OUT: LEAVE IT -/
set_option maxRecDepth 100000 in
theorem lifted (os : Os) (started : os.Started) (H : Type) (enc : TypeId × Value → H) :
    ReturnsInHanded {} Tryd.checked os 4 .any (fun w args => (Rows.whenTellsSpec.pre enc Tryd.prog Tryd.f4 Rows.whenTellsRow.domain false w args ∧ laidMetH Tryd.prog Rows.whenTellsRow.laid w) ∧ sizedMet enc Tryd.prog Tryd.f4 (OpenSpec.ofChange Rows.whenTellsSpec) false w args)
      (Rows.whenTellsSpec.post enc Tryd.prog Tryd.f4 false true false false) := by
  refine lift_and_shaped (C := Tryd.checked) (X := fun w _ => laidMetH Tryd.prog Rows.whenTellsRow.laid w) (fun _ _ _ hh h => h.of_heap hh) own started (by kernel_rfl) Tryd.func4
    (ChangeSpec.witness_shaped (enc := enc) (C := Tryd.checked) (os := os) (X := fun w _ => laidMetH Tryd.prog Rows.whenTellsRow.laid w) false (World.laidAll Tryd.prog os Rows.whenTellsRow.laid) #[.agg #[.int .i64 0, .int .i64 0, .int .i64 0], .agg #[.int .u32 0, .int .u8 0, .int .i64 0, .int .i64 0]] 8 (World.laidAll_os _ _ _)
      (World.shaped_of_ZipB (by kernel_rfl) (by kernel_rfl)) (by kernel_rfl) (by kernel_rfl) (by kernel_rfl)
      (by rw [MakeChecks.laidMetH_plain _ _ _ (by kernel_rfl)]; exact laidMet_laidAll _ (by kernel_rfl) (by kernel_rfl))) ?_
  intro W base args ds gs before hval0 hW hsh hL
  have hval : ∀ (j : Nat) t v, Tryd.f4.params[j]? = some t → args[j]? = some v → Value.okWide Tryd.prog W .any base t v := hval0
  have hW' := hW
  obtain ⟨p, q, hA0, hV, rfl, hfz, hnd⟩ := hW
  have hA : DataW.TrodAll enc Tryd.prog W 0 (fun _ => true) true Tryd.f4.params.toList args.toList ds p := hA0
  rw [Tryd.params4] at hA hval
  obtain ⟨v0, vs0, d0, ds0, p0, q0, hargs, rfl, rfl, h0, r0⟩ := trodAll_cons hA
  obtain ⟨v1, vs1, d1, ds1, p1, q1, rfl, rfl, rfl, h1, r1⟩ := trodAll_cons r0
  obtain ⟨rfl, rfl, rfl⟩ := trodAll_nil r1
  obtain rfl : args = #[v0, v1] := by cases args; simp_all
  obtain ⟨rfl, rfl⟩ := trodVars_none hV
  have k0 := h0
  have lt0 : ∀ x ∈ p0, x.block < W.heap.size := by obtain ⟨m, hm⟩ := k0; exact DataW.trod_lt m _ _ _ hm
  obtain ⟨a0, rfl, w0⟩ := open_gr (hval 0 23 v0 rfl rfl) h0
  have k1 := h1
  have lt1 : ∀ x ∈ p1, x.block < W.heap.size := by obtain ⟨m, hm⟩ := k1; exact DataW.trod_lt m _ _ _ hm
  obtain ⟨a1, rfl, w1⟩ := open_wh (hval 1 26 v1 rfl rfl) h1
  clear hA0 hval0
  have hT : Tab W := tab_of_laid hL
  refine (walk a0 a1 W w0 w1 hT).mono fun e W' ⟨he, bel⟩ => ?_
  subst he
  exact ⟨_, rfl, _, _, _, [], _, [], hW', trodAll_mk1 (shut_bool Tryd.underlying4 _), (trodAll_cons_mk (Below.trod laidOut (by kernel_rfl) (of_decide_eq_true (by kernel_rfl)) k0 bel lt0) (trodAll_cons_mk (Below.trod laidOut (by kernel_rfl) (of_decide_eq_true (by kernel_rfl)) k1 bel lt1) trodAll_mk0)), rfl, bel.frame _, fun h => by cases h⟩

theorem over : Rows.whenTellsRow.holds Tryd.pinned (OpenSpec.ofChange Rows.whenTellsSpec) :=
  OpenClaim.holds_of_wide 4 Tryd.f4 rfl rfl rfl rfl rfl rfl rfl ⟨rfl, rfl, rfl, rfl, rfl⟩ rfl rfl rfl rfl rfl (by kernel_rfl) Tryd.func4 (by kernel_rfl)
    (of_decide_eq_true (by kernel_rfl)) (by unfold Func.isWrapper; first | (rw [if_pos (by decide +kernel)]; kernel_rfl) | (rw [if_neg (by decide +kernel)]; exact ⟨rfl, rfl⟩))
    (fun os started H enc _ => lifted os started H enc)

theorem proved : Rows.WhenTellsCardSaid :=
  Claim7.holds_tied_plain_at .later [] [.data] true (true, "3a99651b043e18f83b1f2cac08d112f80564e10425dcffe62ddda1d2b7045292") false over (fun _ h => by cases h) (by kernel_rfl) (fun _ h => by cases h) whenTells_row_tie rfl ⟨rfl, rfl⟩ (by kernel_rfl) rfl
    (fun f fn hf hfn => by
      obtain rfl : f = 4 := Option.some.inj ((show Tryd.prog.funcNamed "horarium/horariumlaw09.WhenTells" = some 4 by kernel_rfl).symm.trans hf) |>.symm
      obtain rfl : fn = Tryd.f4 := (Option.some.inj (Tryd.func4.symm.trans hfn)).symm
      exact ⟨by kernel_rfl, fun j t ht => by
        rw [Tryd.params4] at ht
        have hm : t ∈ [23, 26] := by simpa using Array.mem_of_getElem? ht
        have hall : ([23, 26].all fun u => !Tryd.prog.wantsStandIn u) = true := by kernel_rfl
        exact (show Tryd.prog.wantsStandIn t = false by simpa using List.all_eq_true.1 hall t hm)⟩)
    (by kernel_rfl)
#print axioms proved
end Go.Proofs.YtcdldgmgmbopdaaDoor.whenTells

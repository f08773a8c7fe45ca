/- Proves 'PairKindsCardSaid': for every input the Go function PairKinds returns true, and each argument reads afterwards as it read before; the card ties the listed variables to the program's text. Conditions: none beyond the row's own (the listed variables of the library read as their text lays them). -/
import Derived.Test.YtnhniajfnmdnnaaDoorTie
import Derived.Test.YtnhniajfnmdnnaaDoorCards
import Derived.WalkKit
import Derived.ProofKit
import Derived.OpenShut
import Derived.ShutString
import Derived.SliceStrings
import Derived.ChangeOld
import Derived.Below
import Derived.LaidMore
import Derived.Lay
import Derived.SevenTiedAt
import Derived.Stop.Joined
import Derived.HandedShaped
import Derived.Test.YtnhniajfnmdnnaaDoorPaiQ
namespace Go.Proofs.YtnhniajfnmdnnaaDoor.pairKinds
open Go.ChangeShapes Go.WideShapes Go.ChangeAt Go.RowKit
open Go.ChangeMaps (open_string shut_string)
set_option linter.unusedVariables false

theorem own : ownKnob Tryd.prog.godebug = none := by kernel_rfl
theorem laidOut : laidOutB Tryd.prog = true := by kernel_rfl

/-- WHAT THE WALK IS TOLD OF A SLICE OF INTEGERS THAT CAME IN: it is nil; or it leads to a row of 'cap' cells, the numbers 'zs' (the first 'len' are its elements, the rest its spare room), each fitting its kind. -/
def IsRow (k : IntKind) (w : World) (a : Option Addr) (len cap : Nat) (zs : List Int) : Prop :=
  (a = none ∧ len = 0 ∧ cap = 0 ∧ zs = []) ∨
  ∃ x, a = some x ∧ len ≤ cap ∧ cap ≤ maxLen ∧ zs.length = cap ∧ (∀ i, i < zs.length → w.cell? (x.add i) = some (.int k (zs.getD i 0))) ∧ ∀ n ∈ zs, (Lit.int k n).wf = true

/-! ### STEP 1: THE WALK: the Go text returns true, AND WRITES NOTHING THAT WAS THERE: 'Below w.heap.size w w'' (Derived/Below.lean: '.refl', '.alloc', '.drew', '.setCell' at a new block, '.trans'). Open each 'IsRow' by 'rcases' AHEAD of 'go_enter'; part every test ahead of the walk. -/
set_option maxHeartbeats 16000000 in
theorem walk (a0 : Int) (a1 : ByteArray) (w : World) (w0 : (Lit.int .i64 a0).wf = true) (w1 : a1.size ≤ maxLen) (hT : Tbn w) :
    Calls Tryd.prog 6 #[.int .i64 a0, .string a1] w fun e w' => e = .returned (.bool true) ∧ Below w.heap.size w w' := by
  have HT := hid hT
  have Hk := hid (show I64 a0 by have := bounds_i64 w0; unfold I64; omega)
  obtain ⟨s, rfl⟩ : ∃ s : List UInt8, bs s = a1 := ⟨a1.data.toList, of_bs a1⟩
  have Hs := hid (show s.length ≤ maxLen by rw [← bs_size]; exact w1)
  generalize a0 = k at *
  clear hT w0 w1
  show Calls Tryd.prog 6 #[.int .i64 k, txt s] w (Did (.bool true) w)
  have HH := hid (fun X h => heads15 own15 X h)
  have A1 := hid (fun X => own15.needs k X Hk.out)
  have A2 := hid (fun X => r_Needs k X)
  have A3 := hid (fun X h => own15.kind s X Hs.out h)
  have A4 := hid (fun X => r_Kind s X)
  have A5 := hid (fun X => own15.known k X Hk.out)
  have A6 := hid (fun X => r_Known k X)
  have A7 := hid (fun X => own15.turns k X Hk.out)
  have A8 := hid (fun X h => own15.name k X Hk.out h)
  have A9 := hid (fun X => r_NameK k X)
  obtain ⟨kz, kb, hkd⟩ : ∃ (kz : Int) (kb : Bool), kdV s = .tuple #[.int .i64 kz, .bool kb] := by
    unfold kdV
    split
    · exact ⟨_, _, rfl⟩
    · split <;> exact ⟨_, _, rfl⟩
  rw [hkd] at A3 A4
  clear hkd
  have q12 : (k != 12) = !decide (k = 12) := by by_cases h : k = 12 <;> simp [h]
  generalize decide (k = 12) = d12 at *
  generalize nmB k = nm at *
  generalize ndT k = n1 at *
  generalize ndR k = n2 at *
  generalize knB k = kn at *
  have B0 := hid (Below.refl w.heap.size w)
  go_enter Tryd.func6, Tryd.ntmps6
  go_wp2_with fail
  refine (A1.out _).mono ?_
  rintro e Y1 ⟨rfl, bz⟩
  have B1 := hid (below2 B0.out bz)
  clear bz
  go_wp2_with fail
  refine (A2.out _).mono ?_
  rintro e Y2 ⟨rfl, bz⟩
  have B2 := hid (below2 B1.out bz)
  clear bz
  go_wp2_with fail
  refine (A3.out _ (HT.out.next B2.out)).mono ?_
  rintro e Y3 ⟨rfl, bz⟩
  have B3 := hid (below2 B2.out bz)
  clear bz
  go_wp2_with fail
  refine (A4.out _).mono ?_
  rintro e Y4 ⟨rfl, bz⟩
  have B4 := hid (below2 B3.out bz)
  clear bz
  go_wp2_with fail
  refine (A5.out _).mono ?_
  rintro e Y5 ⟨rfl, bz⟩
  have B5 := hid (below2 B4.out bz)
  clear bz
  go_wp2_with fail
  refine (A6.out _).mono ?_
  rintro e w1 ⟨rfl, rfl⟩
  go_wp2_with fail
  refine (A7.out _).mono ?_
  rintro e Y6 ⟨rfl, bz⟩
  have B6 := hid (below2 B5.out bz)
  clear bz
  go_wp2_with fail
  refine (A6.out _).mono ?_
  rintro e w1 ⟨rfl, rfl⟩
  cases kn with
  | false =>
    go_wp2_with fail
    refine (A8.out _ (HT.out.next B6.out)).mono ?_
    rintro e Y7 ⟨rfl, bz⟩
    have B7 := hid (below2 B6.out bz)
    clear bz
    go_wp2_with fail
    refine (A9.out _).mono ?_
    rintro e Y8 ⟨rfl, bz⟩
    have B8 := hid (below2 B7.out bz)
    clear bz
    go_wp2_with fail
    refine (HH.out _ (HT.out.next B8.out)).mono ?_
    rintro e Y9 ⟨rfl, bz⟩
    have B9 := hid (below2 B8.out bz)
    clear bz
    go_wp2_with fail
    go_ret
    exact Did.mk (by first | rfl | simp) B9.out
  | true =>
    go_wp2_with fail
    refine (A8.out _ (HT.out.next B6.out)).mono ?_
    rintro e Y7 ⟨rfl, bz⟩
    have B7 := hid (below2 B6.out bz)
    clear bz
    go_wp2_with fail
    refine (A9.out _).mono ?_
    rintro e Y8 ⟨rfl, bz⟩
    have B8 := hid (below2 B7.out bz)
    clear bz
    go_wp2_with fail
    refine (HH.out _ (HT.out.next B8.out)).mono ?_
    rintro e Y9 ⟨rfl, bz⟩
    have B9 := hid (below2 B8.out bz)
    clear bz
    go_wp2_with fail
    go_ret
    exact Did.mk (by first | rfl | simp) B9.out

theorem lift_and_shaped {H : Type} {enc : TypeId × Value → H} {a : Assume} {C : Checked} {os : Os} {f : FuncId} {fn : Func} {s : ChangeSpec} {conds : List PathCond} {apart fresh handsOn again : Bool} {X : World → Array Value → Prop}
    (hX : ∀ (w w' : World) (args : Array Value), w.heap = w'.heap → X w args → X w' args)
    (own : ownKnob C.prog.godebug = none) (started : os.Started) (noInit : C.prog.inits.idxOf? f = none) (hfn : C.prog.funcs[f]? = some fn)
    (witness : ∃ (w : World) (tape : Tape) (i : Input), w.os = os ∧ (w.forCall tape i).Shaped C.prog ∧ i.vars = [] ∧ Input.okWide C.prog (w.forCall tape i) .any w.heap.size f i ∧
      ((s.pre enc C.prog fn conds apart (w.forCall tape i).memory i.args ∧ X (w.forCall tape i).memory i.args) ∧ sizedMet enc C.prog fn (OpenSpec.ofChange s) apart (w.forCall tape i).memory i.args) ∧ a.holds C.prog (lone (Frame.enter C.prog f i.args .normal) [] (w.forCall tape i)))
    (contract : ∀ (W : World) (base : Nat) (args : Array Value) (ds gs : List (DataW H)) (before : List MemPlace),
      (∀ (j : Nat) t v, fn.params[j]? = some t → args[j]? = some v → Value.okWide C.prog W .any base t v) →
      DataW.Whole enc C.prog fn.params.toList s.vars apart W args.toList ds gs before → W.ShapedOpen C.prog → X W args →
      Calls C.prog f args W fun e W' => ∃ v, e = .returned v ∧ s.post enc C.prog fn apart fresh handsOn again W args v W') :
    ReturnsInHanded a C os f .any (fun w args => (s.pre enc C.prog fn conds apart w args ∧ X w args) ∧ sizedMet enc C.prog fn (OpenSpec.ofChange s) apart w args) (s.post enc C.prog fn apart fresh handsOn again) := by
  refine returnsInHanded_of_calls own started noInit witness ?_
  intro w tape i _ hsh _ hok hpre hholds
  obtain ⟨_, _, _, fn', hfn', _, _, _, _, hval⟩ := hok
  have e : fn' = fn := Option.some.inj (hfn'.symm.trans hfn)
  subst e
  obtain ⟨⟨⟨ds, gs, before, hw, hc⟩, hx⟩, hz⟩ := hpre
  have hw' := DataW.Whole.of_heap (w' := w.forCall tape i) (by rfl) hw
  refine (contract (w.forCall tape i) w.heap.size i.args ds gs before hval hw' hsh (hX _ _ _ (by rfl) hx)).mono fun e W' ⟨v, he, hp⟩ => ?_
  subst he
  exact ChangeSpec.post_blind hp

/-! ### THE ROW's STEP: WRITTEN OUT: LEAVE IT -/
set_option maxRecDepth 100000 in
theorem lifted (os : Os) (started : os.Started) (H : Type) (enc : TypeId × Value → H) :
    ReturnsInHanded {} Tryd.checked os 6 .any (fun w args => (Rows.pairKindsSpec.pre enc Tryd.prog Tryd.f6 Rows.pairKindsRow.domain false w args ∧ laidMetH Tryd.prog Rows.pairKindsRow.laid w) ∧ sizedMet enc Tryd.prog Tryd.f6 (OpenSpec.ofChange Rows.pairKindsSpec) false w args)
      (Rows.pairKindsSpec.post enc Tryd.prog Tryd.f6 false true false false) := by
  refine lift_and_shaped (C := Tryd.checked) (X := fun w _ => laidMetH Tryd.prog Rows.pairKindsRow.laid w) (fun _ _ _ hh h => h.of_heap hh) own started (by kernel_rfl) Tryd.func6
    (ChangeSpec.witness_shaped (enc := enc) (C := Tryd.checked) (os := os) (X := fun w _ => laidMetH Tryd.prog Rows.pairKindsRow.laid w) false (World.laidAll Tryd.prog os Rows.pairKindsRow.laid) #[.int .i64 0, .string ByteArray.empty] 8 (World.laidAll_os _ _ _)
      (World.shaped_of_ZipB (by kernel_rfl) (by kernel_rfl)) (by kernel_rfl) (by kernel_rfl) (by kernel_rfl)
      (by rw [MakeChecks.laidMetH_plain _ _ _ (by kernel_rfl)]; exact laidMet_laidAll _ (by kernel_rfl) (by kernel_rfl))) ?_
  intro W base args ds gs before hval0 hW hsh hL
  have hval : ∀ (j : Nat) t v, Tryd.f6.params[j]? = some t → args[j]? = some v → Value.okWide Tryd.prog W .any base t v := hval0
  have hW' := hW
  obtain ⟨p, q, hA0, hV, rfl, hfz, hnd⟩ := hW
  have hA : DataW.TrodAll enc Tryd.prog W 0 (fun _ => true) true Tryd.f6.params.toList args.toList ds p := hA0
  rw [Tryd.params6] at hA hval
  obtain ⟨v0, vs0, d0, ds0, p0, q0, hargs, rfl, rfl, h0, r0⟩ := trodAll_cons hA
  obtain ⟨v1, vs1, d1, ds1, p1, q1, rfl, rfl, rfl, h1, r1⟩ := trodAll_cons r0
  obtain ⟨rfl, rfl, rfl⟩ := trodAll_nil r1
  obtain rfl : args = #[v0, v1] := by cases args; simp_all
  obtain ⟨rfl, rfl⟩ := trodVars_none hV
  obtain ⟨a0, rfl, rfl, rfl, w0⟩ := open_int Tryd.underlying24 (hval 0 24 v0 rfl rfl) h0
  obtain ⟨a1, rfl, rfl, rfl, w1⟩ := open_string Tryd.underlying9 (hval 1 9 v1 rfl rfl) h1
  clear hA0 hval0
  have hT : Tbn W := tbn_of hL
  refine (walk a0 a1 W w0 w1 hT).mono fun e W' ⟨he, bel⟩ => ?_
  subst he
  exact ⟨_, rfl, _, _, _, [], _, [], hW', trodAll_mk1 (shut_bool Tryd.underlying4 _), (trodAll_cons_mk (shut_int Tryd.underlying24 w0) (trodAll_cons_mk (shut_string Tryd.underlying9 w1) trodAll_mk0)), rfl, bel.frame _, fun h => by cases h⟩

theorem over : Rows.pairKindsRow.holds Tryd.pinned (OpenSpec.ofChange Rows.pairKindsSpec) :=
  OpenClaim.holds_of_wide 6 Tryd.f6 rfl rfl rfl rfl rfl rfl rfl ⟨rfl, rfl, rfl, rfl, rfl⟩ rfl rfl rfl rfl rfl (by kernel_rfl) Tryd.func6 (by kernel_rfl)
    (of_decide_eq_true (by kernel_rfl)) (by unfold Func.isWrapper; first | (rw [if_pos (by decide +kernel)]; kernel_rfl) | (rw [if_neg (by decide +kernel)]; exact ⟨rfl, rfl⟩))
    (fun os started H enc _ => lifted os started H enc)

theorem proved : Rows.PairKindsCardSaid :=
  Claim7.holds_tied_plain_at .later [] [.data, .data] true (true, "bf37e17392dd6f2756c0075e89216da98ca2bfb72710cf31e5ecb243f2744dc4") false over (fun _ h => by cases h) (by kernel_rfl) (fun _ h => by cases h) pairKinds_row_tie rfl ⟨rfl, rfl⟩ (by kernel_rfl) rfl
    (fun f fn hf hfn => by
      obtain rfl : f = 6 := Option.some.inj ((show Tryd.prog.funcNamed "horarium/horariumlaw15.PairKinds" = some 6 by kernel_rfl).symm.trans hf) |>.symm
      obtain rfl : fn = Tryd.f6 := (Option.some.inj (Tryd.func6.symm.trans hfn)).symm
      exact ⟨by kernel_rfl, fun j t ht => by
        rw [Tryd.params6] at ht
        have hm : t ∈ [24, 9] := by simpa using Array.mem_of_getElem? ht
        have hall : ([24, 9].all fun u => !Tryd.prog.wantsStandIn u) = true := by kernel_rfl
        exact (show Tryd.prog.wantsStandIn t = false by simpa using List.all_eq_true.1 hall t hm)⟩)
    (by kernel_rfl)
#print axioms proved
end Go.Proofs.YtnhniajfnmdnnaaDoor.pairKinds

/- Proves 'BitsBackCardSaid': for every input the Go function BitsBack returns true, and each argument reads afterwards as it read before; the card ties the listed variables to the program's text. Conditions: none beyond the row's own (the listed variables of the library read as their text lays them). -/
import Derived.Test.YteejccppdmjlaaaDoorTie
import Derived.Test.YteejccppdmjlaaaDoorCards
import Derived.WalkKit
import Derived.ProofKit
import Derived.OpenShut
import Derived.ShutString
import Derived.SliceStrings
import Derived.ChangeOld
import Derived.Below
import Derived.LaidMore
import Derived.Lay
import Derived.SevenTiedAt
import Derived.Stop.Joined
import Derived.HandedShaped
import Derived.Test.YteejccppdmjlaaaDoorBitK
namespace Go.Proofs.YteejccppdmjlaaaDoor.bitsBack
open Go.ChangeShapes Go.WideShapes Go.ChangeAt Go.RowKit
open Go.ChangeMaps (open_string shut_string)
set_option linter.unusedVariables false

theorem own : ownKnob Tryd.prog.godebug = none := by kernel_rfl
theorem laidOut : laidOutB Tryd.prog = true := by kernel_rfl

/-- WHAT THE WALK IS TOLD OF A SLICE OF INTEGERS THAT CAME IN: it is nil; or it leads to a row of 'cap' cells, the numbers 'zs' (the first 'len' are its elements, the rest its spare room), each fitting its kind. -/
def IsRow (k : IntKind) (w : World) (a : Option Addr) (len cap : Nat) (zs : List Int) : Prop :=
  (a = none ∧ len = 0 ∧ cap = 0 ∧ zs = []) ∨
  ∃ x, a = some x ∧ len ≤ cap ∧ cap ≤ maxLen ∧ zs.length = cap ∧ (∀ i, i < zs.length → w.cell? (x.add i) = some (.int k (zs.getD i 0))) ∧ ∀ n ∈ zs, (Lit.int k n).wf = true

/-! ### STEP 1: THE WALK: the Go text returns true, AND WRITES NOTHING THAT WAS THERE: 'Below w.heap.size w w'' (Derived/Below.lean: '.refl', '.alloc', '.drew', '.setCell' at a new block, '.trans'). Open each 'IsRow' by 'rcases' AHEAD of 'go_enter'; part every test ahead of the walk. -/
set_option maxHeartbeats 16000000 in
theorem walk (a0 : Option Addr) (len0 cap0 : Nat) (z0 : List Int) (w : World) (w0 : IsRow .u64 w a0 len0 cap0 z0) (hT : Tab w) :
    Calls Tryd.prog 4 #[.slice a0 len0 cap0] w fun e w' => e = .returned (.bool true) ∧ Below w.heap.size w w' := by
  obtain ⟨s, hl, hu, hlc, hcm, hok⟩ := open_us w0
  clear w0
  by_cases hbig : (64 : Int) < len0
  · go_enter Tryd.func4, Tryd.ntmps4
    go_wp2_with fail
    refine (heads _).mono ?_
    rintro e w' ⟨rfl, b⟩
    go_wp2_with fail
    go_ret
    exact ⟨rfl, b⟩
  have hbig' : (len0 : Int) ≤ 64 := by omega
  have hml : ∀ j, Bst.mem s j = true → j < 4096 := fun j hj => by have := Bst.mem_lt hj; omega
  have HB := hid (fun (w' : World) (hb : Below w.heap.size w w') => (hu.below hb (Nat.le_refl _)).more hb.size)
  have D1 := hid (p_List a0 len0 cap0 s hl (by omega) hok w hT hu)
  unfold IlRet at D1
  have hll : (Bst.lst s).length ≤ 4096 := by
    have := Bst.upto_len s (64 * s.length)
    rw [show Bst.upto s (64 * s.length) = Bst.lst s from rfl] at this
    omega
  have hof : ∀ j, pOf (il (Bst.lst s)) j = Bst.mem s j := fun j => by
    unfold pOf il
    have e : ((j : Int) ∈ (Bst.lst s).map fun (n : Nat) => (n : Int)) ↔ Bst.mem s j = true := by
      rw [List.mem_map, ← Bst.mem_lst]
      exact ⟨fun ⟨n, hn, he⟩ => by obtain rfl : n = j := by omega
                                   exact hn, fun h => ⟨j, h, rfl⟩⟩
    cases hm : Bst.mem s j with
    | true => rw [decide_eq_true (hml j hm), decide_eq_true (e.2 hm)]; rfl
    | false => exact Bool.and_eq_false_iff.2 (.inr (decide_eq_false fun h => by rw [e.1 h] at hm; cases hm))
  have hlok : ∀ i ∈ il (Bst.lst s), I64 i := fun i hi => by
    unfold il at hi
    obtain ⟨n, hn, rfl⟩ := List.mem_map.1 hi
    have := hml n ((Bst.mem_lst s n).1 hn)
    unfold I64
    omega
  have D2 := hid (fun (A : Option Addr) (n c : Nat) (hn : (il (Bst.lst s)).length = n) (w' : World) (h : Its w' w'.heap.size A (il (Bst.lst s))) => (p_Of A n c (il (Bst.lst s)) hn (by rw [il_len] at hn; omega) hlok _ w' (Nat.le_refl _) h).mono fun _ _ h => h.take (pOf_lt _))
  have D3 := hid (fun (A : Option Addr) (c : Nat) (x : List Nat) (hx : x.length ≤ 1000) (ox : Bst.Ok x) (hm : ∀ i, Bst.mem x i = Bst.mem s i) (w' : World) (hb : Below w.heap.size w w') (h : Us w' w'.heap.size A x) => (p_Same5 A x.length c a0 len0 cap0 x s rfl hl (by omega) (by omega) ox hok _ w' (Nat.le_refl _) h (HB.out w' hb)).mono fun _ _ h => h.yes hm)
  have D4 := hid (fun (w' : World) (hb : Below w.heap.size w w') => (p_Or a0 len0 cap0 none 0 0 s [] hl rfl (by omega) (by omega) hok Bst.ok_nil _ w' (Nat.le_refl _) (HB.out w' hb) (Rd.none_ _ _ _)).mono fun _ _ h => h.take (p_or_lt hl (by omega) rfl (by decide)))
  have Hlen := hid (il_len (Bst.lst s))
  have Hof := hid hof
  clear hu hof hlok
  go_enter Tryd.func4, Tryd.ntmps4
  go_wp2_with fail
  refine (D1.out).mono ?_
  rintro e v1 ⟨A1, c1, rfl, u1, _, b1⟩
  have X1 := hid (D2.out A1 _ c1 Hlen.out v1 u1)
  clear u1
  go_wp2_with fail
  refine (X1.out).mono ?_
  rintro e v2 ⟨A2, c2, x, rfl, u2, z2, ok2, sh2, m2, q2⟩
  have b2 := below2 b1 q2
  have M2 := hid (show ∀ i, Bst.mem x i = Bst.mem s i from fun i => by rw [m2, Hof.out])
  have X2 := hid (D3.out A2 c2 x z2 ok2 M2.out v2 b2 u2)
  have hxl : x.length ≤ len0 := Bst.short_len sh2 ok2 len0 (fun i hi => by rw [M2.out] at hi; have := Bst.mem_lt hi; omega)
  have hxl' : (x.length : Int) ≤ len0 := by omega
  have U2 := hid u2
  have O2 := hid ok2
  have S2 := hid sh2
  clear u2 ok2 sh2 m2 hxl
  go_wp2_with fail
  refine (X2.out).mono ?_
  rintro e v3 ⟨rfl, q3⟩
  have b3 := below2 b2 q3
  have U3 := hid (U2.out.below q3 (Nat.le_refl _))
  by_cases h0 : x = []
  · subst h0
    simp only [List.length_nil] at hxl' ⊢
    go_wp2_with fail
    refine (D4.out _ b3).mono ?_
    rintro e v4 ⟨A4, c4, y, rfl, u4, z4, ok4, sh4, m4, q4⟩
    obtain rfl : y = [] := Bst.ext ok4 O2.out sh4 S2.out fun i => by rw [m4, Bst.mem_nil, Bool.or_false, ← M2.out, Bst.mem_nil]
    have b4 := below2 b3 q4
    have X5 := hid (words_same A4 A2 c4 c2 [] (by decide) _ _ v4 u4 (U3.out.below q4 q3.size))
    clear u4 ok4 sh4 m4
    simp only [List.length_nil] at X5 ⊢
    go_wp2_with fail
    refine (X5.out).mono ?_
    rintro e v5 ⟨rfl, q5⟩
    go_wp2_with fail
    refine (heads _).mono ?_
    rintro e w' ⟨rfl, b⟩
    go_wp2_with fail
    go_ret
    exact ⟨rfl, below2 b4 (below2 q5 b)⟩
  · have hlast := S2.out.last h0
    have hp : 0 < x.length := List.length_pos_iff.2 h0
    obtain ⟨ad, v, rfl, _, Hv, hc⟩ := Us.get U3.out (k := x.length - 1) (by omega)
    rw [Hv.out] at hlast
    have hv0 : ((v : Int) != 0) = true := by rw [bne_iff_ne]; omega
    have hn0 : ((x.length : Int) == 0) = false := by rw [beq_eq_false_iff_ne]; omega
    have hidx : (x.length : Int) - 1 = ((x.length - 1 : Nat) : Int) := by omega
    have i1 : (0 : Int) ≤ ((x.length - 1 : Nat) : Int) := by omega
    have i2 : ((x.length - 1 : Nat) : Int) < (x.length : Int) := by omega
    have hn0' : ¬ x.length = 0 := by omega
    clear hlast h0 hp
    go_wp2_with fail
    refine (D4.out _ b3).mono ?_
    rintro e v4 ⟨A4, c4, y, rfl, u4, z4, ok4, sh4, m4, q4⟩
    obtain rfl : y = x := Bst.ext ok4 O2.out sh4 S2.out fun i => by rw [m4, Bst.mem_nil, Bool.or_false, M2.out]
    have b4 := below2 b3 q4
    have X5 := hid (words_same A4 (some ad) c4 c2 y z4 _ _ v4 u4 (U3.out.below q4 q3.size))
    clear u4 ok4 sh4 m4
    go_wp2_with fail
    refine (X5.out).mono ?_
    rintro e v5 ⟨rfl, q5⟩
    go_wp2_with fail
    refine (heads _).mono ?_
    rintro e w' ⟨rfl, b⟩
    go_wp2_with fail
    go_ret
    exact ⟨rfl, below2 b4 (below2 q5 b)⟩

theorem lift_and_shaped {H : Type} {enc : TypeId × Value → H} {a : Assume} {C : Checked} {os : Os} {f : FuncId} {fn : Func} {s : ChangeSpec} {conds : List PathCond} {apart fresh handsOn again : Bool} {X : World → Array Value → Prop}
    (hX : ∀ (w w' : World) (args : Array Value), w.heap = w'.heap → X w args → X w' args)
    (own : ownKnob C.prog.godebug = none) (started : os.Started) (noInit : C.prog.inits.idxOf? f = none) (hfn : C.prog.funcs[f]? = some fn)
    (witness : ∃ (w : World) (tape : Tape) (i : Input), w.os = os ∧ (w.forCall tape i).Shaped C.prog ∧ i.vars = [] ∧ Input.okWide C.prog (w.forCall tape i) .any w.heap.size f i ∧
      ((s.pre enc C.prog fn conds apart (w.forCall tape i).memory i.args ∧ X (w.forCall tape i).memory i.args) ∧ sizedMet enc C.prog fn (OpenSpec.ofChange s) apart (w.forCall tape i).memory i.args) ∧ a.holds C.prog (lone (Frame.enter C.prog f i.args .normal) [] (w.forCall tape i)))
    (contract : ∀ (W : World) (base : Nat) (args : Array Value) (ds gs : List (DataW H)) (before : List MemPlace),
      (∀ (j : Nat) t v, fn.params[j]? = some t → args[j]? = some v → Value.okWide C.prog W .any base t v) →
      DataW.Whole enc C.prog fn.params.toList s.vars apart W args.toList ds gs before → W.ShapedOpen C.prog → X W args →
      Calls C.prog f args W fun e W' => ∃ v, e = .returned v ∧ s.post enc C.prog fn apart fresh handsOn again W args v W') :
    ReturnsInHanded a C os f .any (fun w args => (s.pre enc C.prog fn conds apart w args ∧ X w args) ∧ sizedMet enc C.prog fn (OpenSpec.ofChange s) apart w args) (s.post enc C.prog fn apart fresh handsOn again) := by
  refine returnsInHanded_of_calls own started noInit witness ?_
  intro w tape i _ hsh _ hok hpre hholds
  obtain ⟨_, _, _, fn', hfn', _, _, _, _, hval⟩ := hok
  have e : fn' = fn := Option.some.inj (hfn'.symm.trans hfn)
  subst e
  obtain ⟨⟨⟨ds, gs, before, hw, hc⟩, hx⟩, hz⟩ := hpre
  have hw' := DataW.Whole.of_heap (w' := w.forCall tape i) (by rfl) hw
  refine (contract (w.forCall tape i) w.heap.size i.args ds gs before hval hw' hsh (hX _ _ _ (by rfl) hx)).mono fun e W' ⟨v, he, hp⟩ => ?_
  subst he
  exact ChangeSpec.post_blind hp

/-! ### THE ROW's STEP: WRITTEN OUT: LEAVE IT -/
set_option maxRecDepth 100000 in
theorem lifted (os : Os) (started : os.Started) (H : Type) (enc : TypeId × Value → H) :
    ReturnsInHanded {} Tryd.checked os 4 .any (fun w args => (Rows.bitsBackSpec.pre enc Tryd.prog Tryd.f4 Rows.bitsBackRow.domain false w args ∧ laidMetH Tryd.prog Rows.bitsBackRow.laid w) ∧ sizedMet enc Tryd.prog Tryd.f4 (OpenSpec.ofChange Rows.bitsBackSpec) false w args)
      (Rows.bitsBackSpec.post enc Tryd.prog Tryd.f4 false true false false) := by
  refine lift_and_shaped (C := Tryd.checked) (X := fun w _ => laidMetH Tryd.prog Rows.bitsBackRow.laid w) (fun _ _ _ hh h => h.of_heap hh) own started (by kernel_rfl) Tryd.func4
    (ChangeSpec.witness_shaped (enc := enc) (C := Tryd.checked) (os := os) (X := fun w _ => laidMetH Tryd.prog Rows.bitsBackRow.laid w) false (World.laidAll Tryd.prog os Rows.bitsBackRow.laid) #[.slice none 0 0] 8 (World.laidAll_os _ _ _)
      (World.shaped_of_ZipB (by kernel_rfl) (by kernel_rfl)) (by kernel_rfl) (by kernel_rfl) (by kernel_rfl)
      (by rw [MakeChecks.laidMetH_plain _ _ _ (by kernel_rfl)]; exact laidMet_laidAll _ (by kernel_rfl) (by kernel_rfl))) ?_
  intro W base args ds gs before hval0 hW hsh hL
  have hval : ∀ (j : Nat) t v, Tryd.f4.params[j]? = some t → args[j]? = some v → Value.okWide Tryd.prog W .any base t v := hval0
  have hW' := hW
  obtain ⟨p, q, hA0, hV, rfl, hfz, hnd⟩ := hW
  have hA : DataW.TrodAll enc Tryd.prog W 0 (fun _ => true) true Tryd.f4.params.toList args.toList ds p := hA0
  rw [Tryd.params4] at hA hval
  obtain ⟨v0, vs0, d0, ds0, p0, q0, hargs, rfl, rfl, h0, r0⟩ := trodAll_cons hA
  obtain ⟨rfl, rfl, rfl⟩ := trodAll_nil r0
  obtain rfl : args = #[v0] := by cases args; simp_all
  obtain ⟨rfl, rfl⟩ := trodVars_none hV
  obtain ⟨a0, len0, cap0, rfl⟩ := okWide_slice Tryd.underlying22 (hval 0 22 v0 rfl rfl)
  have k0 := h0
  have lt0 : ∀ x ∈ p0, x.block < W.heap.size := by obtain ⟨m, hm⟩ := k0; exact DataW.trod_lt m _ _ _ hm
  obtain ⟨z0, w0⟩ : ∃ zs, IsRow .u64 W a0 len0 cap0 zs := by
    obtain ⟨fuel, hf⟩ := h0
    rcases open_ints Tryd.underlying22 Tryd.underlying35 (by kernel_rfl) hf with ⟨hcs, _⟩ | ⟨x, l, c, zs, hcs, _, hl, hm, hz, _, hcell, hwz⟩
    · simp [Value.cells] at hcs
      obtain ⟨rfl, rfl, rfl⟩ := hcs
      exact ⟨[], .inl ⟨rfl, rfl, rfl, rfl⟩⟩
    · simp [Value.cells] at hcs
      obtain ⟨rfl, rfl, rfl⟩ := hcs
      exact ⟨zs, .inr ⟨_, rfl, hl, hm, by simpa using hz, hcell, hwz⟩⟩
  clear hA0 hval0
  have hT : Tab W := tab_of_laid hL
  refine (walk a0 len0 cap0 z0 W w0 hT).mono fun e W' ⟨he, bel⟩ => ?_
  subst he
  exact ⟨_, rfl, _, _, _, [], _, [], hW', trodAll_mk1 (shut_bool Tryd.underlying4 _), (trodAll_cons_mk (Below.trod laidOut (by kernel_rfl) (of_decide_eq_true (by kernel_rfl)) k0 bel lt0) trodAll_mk0), rfl, bel.frame _, fun h => by cases h⟩

theorem over : Rows.bitsBackRow.holds Tryd.pinned (OpenSpec.ofChange Rows.bitsBackSpec) :=
  OpenClaim.holds_of_wide 4 Tryd.f4 rfl rfl rfl rfl rfl rfl rfl ⟨rfl, rfl, rfl, rfl, rfl⟩ rfl rfl rfl rfl rfl (by kernel_rfl) Tryd.func4 (by kernel_rfl)
    (of_decide_eq_true (by kernel_rfl)) (by unfold Func.isWrapper; first | (rw [if_pos (by decide +kernel)]; kernel_rfl) | (rw [if_neg (by decide +kernel)]; exact ⟨rfl, rfl⟩))
    (fun os started H enc _ => lifted os started H enc)

theorem proved : Rows.BitsBackCardSaid :=
  Claim7.holds_tied_plain_at .later [] [.data] true (true, "001c9e0cf3a663c95d09ad19ca32b2294409f16872b2a7f3a39c9f575d69fd72") false over (fun _ h => by cases h) (by kernel_rfl) (fun _ h => by cases h) bitsBack_row_tie rfl ⟨rfl, rfl⟩ (by kernel_rfl) rfl
    (fun f fn hf hfn => by
      obtain rfl : f = 4 := Option.some.inj ((show Tryd.prog.funcNamed "horarium/horariumlaw05.BitsBack" = some 4 by kernel_rfl).symm.trans hf) |>.symm
      obtain rfl : fn = Tryd.f4 := (Option.some.inj (Tryd.func4.symm.trans hfn)).symm
      exact ⟨by kernel_rfl, fun j t ht => by
        rw [Tryd.params4] at ht
        have hm : t ∈ [22] := by simpa using Array.mem_of_getElem? ht
        have hall : ([22].all fun u => !Tryd.prog.wantsStandIn u) = true := by kernel_rfl
        exact (show Tryd.prog.wantsStandIn t = false by simpa using List.all_eq_true.1 hall t hm)⟩)
    (by kernel_rfl)
#print axioms proved
end Go.Proofs.YteejccppdmjlaaaDoor.bitsBack

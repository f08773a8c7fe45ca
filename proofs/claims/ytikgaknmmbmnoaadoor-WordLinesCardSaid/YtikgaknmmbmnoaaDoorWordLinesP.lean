/- Proves 'WordLinesCardSaid': for every input the Go function WordLines returns true, and each argument reads afterwards as it read before; the card ties the listed variables to the program's text. Conditions: none beyond the row's own (the listed variables of the library read as their text lays them). -/
import Derived.Test.YtikgaknmmbmnoaaDoorTie
import Derived.Test.YtikgaknmmbmnoaaDoorCards
import Derived.WalkKit
import Derived.ProofKit
import Derived.OpenShut
import Derived.ShutString
import Derived.SliceStrings
import Derived.ChangeOld
import Derived.Below
import Derived.LaidMore
import Derived.Lay
import Derived.SevenTiedAt
import Derived.Stop.Joined
import Derived.HandedShaped
import Derived.Test.YtikgaknmmbmnoaaDoorWrdL
namespace Go.Proofs.YtikgaknmmbmnoaaDoor.wordLines
open Go.ChangeShapes Go.WideShapes Go.ChangeAt Go.RowKit
open Go.ChangeMaps (open_string shut_string)
set_option linter.unusedVariables false

theorem own : ownKnob Tryd.prog.godebug = none := by kernel_rfl
theorem laidOut : laidOutB Tryd.prog = true := by kernel_rfl

theorem tl_few {ls : List (List UInt8)} (h1 : ls.length ≤ 30) (h2 : ∀ t ∈ ls, t.length ≤ 300) : (Wrd.tl ls).length ≤ 1000000 := by
  have := Wrd.tl_len ls 300 h2
  have := Nat.mul_le_mul_right (300 + 1) h1
  omega

theorem walk (a0 : ByteArray) (a1 : Option Addr) (len1 cap1 : Nat) (z1 : List ByteArray) (mx : Int) (w : World) (w0 : a0.size ≤ maxLen) (w1 : IsRowS w a1 len1 cap1 z1) (hmx : w.cell? ⟨0, 0, none⟩ = some (.int .i64 mx)) :
    Calls Tryd.prog 3 #[.string a0, .slice a1 len1 cap1] w fun e w' => e = .returned (.bool true) ∧ Below w.heap.size w w' := by
  obtain ⟨ls, rfl, hS, hm, hz⟩ := w1.open_
  clear w1
  have Hmx := hid hmx
  have Hfew := hid (fun (w' : World) (h : Strs w' w.heap.size a1 ls) => p_few a1 cap1 ls w' _ h hm hz)
  unfold BoolRet at Hfew
  have HS := hid hS
  clear hmx
  by_cases h0 : 3000 < a0.size
  · have f0 : (3000 : Int) < a0.size := by omega
    clear hS hz
    go_enter Tryd.func3, Tryd.ntmps3
    go_wp2_with fail
    refine (heads _).mono ?_
    rintro e w' ⟨rfl, b⟩
    go_wp2_with fail
    go_ret
    exact ⟨rfl, b⟩
  · have f0 : ¬ (3000 : Int) < a0.size := by omega
    cases hf : fewB ls with
    | false =>
      rw [hf] at Hfew
      clear hf hS hz
      go_enter Tryd.func3, Tryd.ntmps3
      go_wp2_with fail
      refine (Hfew.out _ HS.out).mono ?_
      rintro e w' ⟨rfl, rfl⟩
      go_wp2_with fail
      refine (heads _).mono ?_
      rintro e w' ⟨rfl, b⟩
      go_wp2_with fail
      go_ret
      exact ⟨rfl, b⟩
    | true =>
      obtain ⟨k1, k2⟩ := fewB_yes hf
      rw [hf] at Hfew
      have Hp := hid (p_Lines a0 (by omega) mx w Hmx.out)
      have Hr := hid (fun w => r_Lines a0 (by omega) w)
      have Ht := hid (fun (w' : World) (h : Strs w' w'.heap.size a1 ls) => p_Text a1 cap1 ls w' h (by omega) (tl_few k1 k2))
      have Hu := hid (fun (w' : World) (B : Nat) (h : Strs w' B a1 ls) => r_Text a1 cap1 ls w' B h (by omega) (tl_few k1 k2))
      have hsm := Wrd.lns_small a0.data.toList
      rw [data_len] at hsm
      have Hback := hid (fun h => Wrd.lns_back a0.data.toList h)
      have Hlen := hid (data_len a0)
      unfold LnRet at Hp Hr
      unfold TxRet at Ht
      unfold TxSame at Hu
      generalize Wrd.lns a0.data.toList = r at *
      obtain ⟨ms, x⟩ := r
      simp only [] at Hp Hr hsm Hback
      generalize Wrd.tl ls = j at *
      clear hf hS hz k2
      by_cases hx : x = 0
      · subst hx
        have hback := Hback.out rfl
        have Ht2 := hid (fun (A : Option Addr) (c : Nat) (w' : World) (h : Strs w' w'.heap.size A ms) => p_Text A c ms w' h (by omega) (by rw [hback, Hlen.out]; omega))
        unfold TxRet at Ht2
        rw [hback, show txt a0.data.toList = Value.string a0 by rw [txt, of_bs]] at Ht2
        clear hback Hback
        go_enter Tryd.func3, Tryd.ntmps3
        go_wp2_with fail
        refine (Hfew.out _ HS.out).mono ?_
        rintro e w' ⟨rfl, rfl⟩
        go_wp2_with fail
        refine (Hp.out).mono ?_
        rintro e w1 ⟨A1, c1, rfl, s1, b1⟩
        have S1 := hid s1
        clear s1
        go_wp2_with fail
        refine (Hr.out _).mono ?_
        rintro e w2 ⟨A2, c2, rfl, s2, b2⟩
        have hs := p_Same A1 A2 c1 c2 ms ms w2 _ _ (S1.out.below b2 (Nat.le_refl _)) s2 (by unfold maxLen; omega) (by unfold maxLen; omega)
        unfold BoolDraw at hs
        rw [show decide (ms = ms) = true from decide_eq_true rfl] at hs
        have Hs := hid hs
        clear hs s2
        go_wp2_with fail
        refine (Hs.out).mono ?_
        rintro e w3 ⟨rfl, m3, rfl⟩
        have b3 := below_drewN b2 m3
        have hS3 := (HS.out.below (below2 b1 b3) (Nat.le_refl _))
        go_wp2_with fail
        refine (Ht.out _ (hS3.more (below2 b1 b3).size)).mono ?_
        rintro e w4 ⟨rfl, b4⟩
        have hS4 := hS3.below b4 (below2 b1 b3).size
        have hS5 := (S1.out.below (below2 b3 b4) (Nat.le_refl _)).more (below2 b3 b4).size
        clear hS3
        go_wp2_with fail
        refine (Hu.out _ _ hS4).mono ?_
        rintro e w5 ⟨rfl, rfl⟩
        have HS5 := hid hS5
        clear hS4 hS5
        go_wp2_with fail
        refine (Ht2.out _ _ _ HS5.out).mono ?_
        rintro e w6 ⟨rfl, b6⟩
        go_wp2_with fail
        refine (heads _).mono ?_
        rintro e w7 ⟨rfl, b7⟩
        go_wp2_with fail
        go_ret
        exact ⟨rfl, below5 b1 b3 b4 b6 b7⟩
      · have hx' : ((x : Int) != 0) = true := by rw [bne_iff_ne]; omega
        clear hx Hback
        go_enter Tryd.func3, Tryd.ntmps3
        go_wp2_with fail
        refine (Hfew.out _ HS.out).mono ?_
        rintro e w' ⟨rfl, rfl⟩
        go_wp2_with fail
        refine (Hp.out).mono ?_
        rintro e w1 ⟨A1, c1, rfl, s1, b1⟩
        have S1 := hid s1
        clear s1
        go_wp2_with fail
        refine (Hr.out _).mono ?_
        rintro e w2 ⟨A2, c2, rfl, s2, b2⟩
        have hs := p_Same A1 A2 c1 c2 ms ms w2 _ _ (S1.out.below b2 (Nat.le_refl _)) s2 (by unfold maxLen; omega) (by unfold maxLen; omega)
        unfold BoolDraw at hs
        rw [show decide (ms = ms) = true from decide_eq_true rfl] at hs
        have Hs := hid hs
        clear hs s2
        go_wp2_with fail
        refine (Hs.out).mono ?_
        rintro e w3 ⟨rfl, m3, rfl⟩
        have b3 := below_drewN b2 m3
        have hS3 := (HS.out.below (below2 b1 b3) (Nat.le_refl _))
        go_wp2_with fail
        refine (Ht.out _ (hS3.more (below2 b1 b3).size)).mono ?_
        rintro e w4 ⟨rfl, b4⟩
        have hS4 := hS3.below b4 (below2 b1 b3).size
        clear hS3
        go_wp2_with fail
        refine (Hu.out _ _ hS4).mono ?_
        rintro e w5 ⟨rfl, rfl⟩
        clear hS4
        go_wp2_with fail
        refine (heads _).mono ?_
        rintro e w7 ⟨rfl, b7⟩
        go_wp2_with fail
        go_ret
        exact ⟨rfl, below4 b1 b3 b4 b7⟩

/-- the plain wrap with a condition beside, the world's shape kept -/
theorem lift_and_shaped {H : Type} {enc : TypeId × Value → H} {a : Assume} {C : Checked} {os : Os} {f : FuncId} {fn : Func} {s : ChangeSpec} {conds : List PathCond} {apart fresh handsOn again : Bool} {X : World → Array Value → Prop}
    (hX : ∀ (w w' : World) (args : Array Value), w.heap = w'.heap → X w args → X w' args)
    (own : ownKnob C.prog.godebug = none) (started : os.Started) (noInit : C.prog.inits.idxOf? f = none) (hfn : C.prog.funcs[f]? = some fn)
    (witness : ∃ (w : World) (tape : Tape) (i : Input), w.os = os ∧ (w.forCall tape i).Shaped C.prog ∧ i.vars = [] ∧ Input.okWide C.prog (w.forCall tape i) .any w.heap.size f i ∧
      ((s.pre enc C.prog fn conds apart (w.forCall tape i).memory i.args ∧ X (w.forCall tape i).memory i.args) ∧ sizedMet enc C.prog fn (OpenSpec.ofChange s) apart (w.forCall tape i).memory i.args) ∧ a.holds C.prog (lone (Frame.enter C.prog f i.args .normal) [] (w.forCall tape i)))
    (contract : ∀ (W : World) (base : Nat) (args : Array Value) (ds gs : List (DataW H)) (before : List MemPlace),
      (∀ (j : Nat) t v, fn.params[j]? = some t → args[j]? = some v → Value.okWide C.prog W .any base t v) →
      DataW.Whole enc C.prog fn.params.toList s.vars apart W args.toList ds gs before → W.ShapedOpen C.prog → X W args →
      Calls C.prog f args W fun e W' => ∃ v, e = .returned v ∧ s.post enc C.prog fn apart fresh handsOn again W args v W') :
    ReturnsInHanded a C os f .any (fun w args => (s.pre enc C.prog fn conds apart w args ∧ X w args) ∧ sizedMet enc C.prog fn (OpenSpec.ofChange s) apart w args) (s.post enc C.prog fn apart fresh handsOn again) := by
  refine returnsInHanded_of_calls own started noInit witness ?_
  intro w tape i _ hsh _ hok hpre hholds
  obtain ⟨_, _, _, fn', hfn', _, _, _, _, hval⟩ := hok
  have e : fn' = fn := Option.some.inj (hfn'.symm.trans hfn)
  subst e
  obtain ⟨⟨⟨ds, gs, before, hw, hc⟩, hx⟩, hz⟩ := hpre
  have hw' := DataW.Whole.of_heap (w' := w.forCall tape i) (by rfl) hw
  refine (contract (w.forCall tape i) w.heap.size i.args ds gs before hval hw' hsh (hX _ _ _ (by rfl) hx)).mono fun e W' ⟨v, he, hp⟩ => ?_
  subst he
  exact ChangeSpec.post_blind hp

set_option maxRecDepth 100000 in
theorem lifted (os : Os) (started : os.Started) (H : Type) (enc : TypeId × Value → H) :
    ReturnsInHanded {} Tryd.checked os 3 .any (fun w args => (Rows.wordLinesSpec.pre enc Tryd.prog Tryd.f3 Rows.wordLinesRow.domain false w args ∧ laidMetH Tryd.prog Rows.wordLinesRow.laid w) ∧ sizedMet enc Tryd.prog Tryd.f3 (OpenSpec.ofChange Rows.wordLinesSpec) false w args)
      (Rows.wordLinesSpec.post enc Tryd.prog Tryd.f3 false true false false) := by
  refine lift_and_shaped (C := Tryd.checked) (X := fun w _ => laidMetH Tryd.prog Rows.wordLinesRow.laid w) (fun _ _ _ hh h => h.of_heap hh) own started (by kernel_rfl) Tryd.func3
    (ChangeSpec.witness_shaped (enc := enc) (C := Tryd.checked) (os := os) (X := fun w _ => laidMetH Tryd.prog Rows.wordLinesRow.laid w) false (World.laidAll Tryd.prog os Rows.wordLinesRow.laid) #[.string ByteArray.empty, .slice none 0 0] 8 (World.laidAll_os _ _ _)
      (World.shaped_of_ZipB (by kernel_rfl) (by kernel_rfl)) (by kernel_rfl) (by kernel_rfl) (by kernel_rfl)
      (by rw [MakeChecks.laidMetH_plain _ _ _ (by kernel_rfl)]; exact laidMet_laidAll _ (by kernel_rfl) (by kernel_rfl))) ?_
  intro W base args ds gs before hval0 hW hsh _
  have hval : ∀ (j : Nat) t v, Tryd.f3.params[j]? = some t → args[j]? = some v → Value.okWide Tryd.prog W .any base t v := hval0
  have hW' := hW
  obtain ⟨p, q, hA0, hV, rfl, hfz, hnd⟩ := hW
  have hA : DataW.TrodAll enc Tryd.prog W 0 (fun _ => true) true Tryd.f3.params.toList args.toList ds p := hA0
  rw [Tryd.params3] at hA hval
  obtain ⟨v0, vs0, d0, ds0, p0, q0, hargs, rfl, rfl, h0, r0⟩ := trodAll_cons hA
  obtain ⟨v1, vs1, d1, ds1, p1, q1, rfl, rfl, rfl, h1, r1⟩ := trodAll_cons r0
  obtain ⟨rfl, rfl, rfl⟩ := trodAll_nil r1
  obtain rfl : args = #[v0, v1] := by cases args; simp_all
  obtain ⟨rfl, rfl⟩ := trodVars_none hV
  obtain ⟨a0, rfl, rfl, rfl, w0⟩ := open_string Tryd.underlying9 (hval 0 9 v0 rfl rfl) h0
  obtain ⟨a1, len1, cap1, rfl⟩ := okWide_slice Tryd.underlying22 (hval 1 22 v1 rfl rfl)
  have k1 := h1
  have lt1 : ∀ x ∈ p1, x.block < W.heap.size := by obtain ⟨m, hm⟩ := k1; exact DataW.trod_lt m _ _ _ hm
  obtain ⟨z1, w1⟩ : ∃ zs, IsRowS W a1 len1 cap1 zs := by
    obtain ⟨fuel, hf⟩ := h1
    rcases open_strings Tryd.underlying22 Tryd.underlying9 (by kernel_rfl) hf with ⟨hcs, _⟩ | ⟨x, l, c, zs, hcs, _, hl, hm, hz, _, hcell, hwz⟩
    · simp [Value.cells] at hcs
      obtain ⟨rfl, rfl, rfl⟩ := hcs
      exact ⟨[], .inl ⟨rfl, rfl, rfl, rfl⟩⟩
    · simp [Value.cells] at hcs
      obtain ⟨rfl, rfl, rfl⟩ := hcs
      exact ⟨zs, .inr ⟨_, rfl, hl, hm, by simpa using hz, hcell, hwz⟩⟩
  obtain ⟨mx, hmx⟩ := Tryd.laysM146.s1_3 W hsh
  clear hA0 hval0
  refine (walk a0 a1 len1 cap1 z1 mx W w0 w1 hmx).mono fun e W' ⟨he, bel⟩ => ?_
  subst he
  exact ⟨_, rfl, _, _, _, [], _, [], hW', trodAll_mk1 (shut_bool Tryd.underlying4 _), (trodAll_cons_mk (shut_string Tryd.underlying9 w0) (trodAll_cons_mk (Below.trod laidOut (by kernel_rfl) (of_decide_eq_true (by kernel_rfl)) k1 bel lt1) trodAll_mk0)), rfl, bel.frame _, fun h => by cases h⟩

theorem over : Rows.wordLinesRow.holds Tryd.pinned (OpenSpec.ofChange Rows.wordLinesSpec) :=
  OpenClaim.holds_of_wide 3 Tryd.f3 rfl rfl rfl rfl rfl rfl rfl ⟨rfl, rfl, rfl, rfl, rfl⟩ rfl rfl rfl rfl rfl (by kernel_rfl) Tryd.func3 (by kernel_rfl)
    (of_decide_eq_true (by kernel_rfl)) (by unfold Func.isWrapper; first | (rw [if_pos (by decide +kernel)]; kernel_rfl) | (rw [if_neg (by decide +kernel)]; exact ⟨rfl, rfl⟩))
    (fun os started H enc _ => lifted os started H enc)

theorem proved : Rows.WordLinesCardSaid :=
  Claim7.holds_tied_plain_at .later [] [.data, .pinned] true (true, "2b3057106b0799351b0a9594e80517e56099d7bde7c0bddb7e7dd3417979d58b") false over (fun _ h => by cases h) (by kernel_rfl) (fun _ h => by cases h) wordLines_row_tie rfl ⟨rfl, rfl⟩ (by kernel_rfl) rfl
    (fun f fn hf hfn => by
      obtain rfl : f = 3 := Option.some.inj ((show Tryd.prog.funcNamed "horarium/horariumlaw02.WordLines" = some 3 by kernel_rfl).symm.trans hf) |>.symm
      obtain rfl : fn = Tryd.f3 := (Option.some.inj (Tryd.func3.symm.trans hfn)).symm
      exact ⟨by kernel_rfl, fun j t ht => by
        rw [Tryd.params3] at ht
        have hm : t ∈ [9, 22] := by simpa using Array.mem_of_getElem? ht
        have hall : ([9, 22].all fun u => !Tryd.prog.wantsStandIn u) = true := by kernel_rfl
        exact (show Tryd.prog.wantsStandIn t = false by simpa using List.all_eq_true.1 hall t hm)⟩)
    (by kernel_rfl)
#print axioms proved
end Go.Proofs.YtikgaknmmbmnoaaDoor.wordLines

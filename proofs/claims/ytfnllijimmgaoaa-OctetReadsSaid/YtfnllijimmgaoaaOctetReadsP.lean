/- Proves 'OctetReadsSaid': for every input the Go function OctetReads returns true, and each argument reads afterwards as it read before. Conditions: none beyond the row's own. -/
import Derived.Test.YtfnllijimmgaoaaRows
import Derived.WalkKit
import Derived.ProofKit
import Derived.OpenShut
import Derived.ShutString
import Derived.SliceStrings
import Derived.ChangeOld
import Derived.Below
import Derived.Test.YtfnllijimmgaoaaOctT
namespace Go.Proofs.Ytfnllijimmgaoaa.octetReads
open Go.ChangeShapes Go.WideShapes Go.ChangeAt Go.RowKit
open Go.ChangeMaps (open_string shut_string)
set_option linter.unusedVariables false

theorem own : ownKnob Try.prog.godebug = none := by kernel_rfl
theorem laidOut : laidOutB Try.prog = true := by kernel_rfl

/-- WHAT THE WALK IS TOLD OF A SLICE OF INTEGERS THAT CAME IN: it is nil; or it leads to a row of 'cap' cells, the numbers 'zs' (the first 'len' are its elements, the rest its spare room), each fitting its kind. -/
def IsRow (k : IntKind) (w : World) (a : Option Addr) (len cap : Nat) (zs : List Int) : Prop :=
  (a = none ∧ len = 0 ∧ cap = 0 ∧ zs = []) ∨
  ∃ x, a = some x ∧ len ≤ cap ∧ cap ≤ maxLen ∧ zs.length = cap ∧ (∀ i, i < zs.length → w.cell? (x.add i) = some (.int k (zs.getD i 0))) ∧ ∀ n ∈ zs, (Lit.int k n).wf = true

/-! ### STEP 1: THE WALK: the Go text returns true, AND WRITES NOTHING THAT WAS THERE: 'Below w.heap.size w w'' (Derived/Below.lean: '.refl', '.alloc', '.drew', '.setCell' at a new block, '.trans'). Open each 'IsRow' by 'rcases' AHEAD of 'go_enter'; part every test ahead of the walk. -/
set_option maxHeartbeats 400000 in
theorem walk (a0 : Option Addr) (len0 cap0 : Nat) (z0 : List Int) (a1 : Int) (a2 : Int) (w : World) (w0 : IsRow .u8 w a0 len0 cap0 z0) (w1 : (Lit.int .i64 a1).wf = true) (w2 : (Lit.int .i64 a2).wf = true) :
    Calls Try.prog 6 #[.slice a0 len0 cap0, .int .i64 a1, .int .i64 a2] w fun e w' => e = .returned (.bool true) ∧ Below w.heap.size w w' := by
  obtain ⟨k1, k2⟩ := bounds_i64 w1
  obtain ⟨k3, k4⟩ := bounds_i64 w2
  obtain ⟨b, hl, hbyt, hlc, hcm⟩ := open_byt w0
  have Hs := hid (fun w => p_short a0 none len0 0 cap0 0 ⟨#[]⟩ w)
  by_cases hsn : ¬ len0 ≤ 2000
  · rw [show (decide (len0 ≤ 2000 ∧ (⟨#[]⟩ : ByteArray).size ≤ 1000 ∧ 0 ≤ 300)) = false from decide_eq_false (fun h => hsn h.1)] at Hs
    unfold BoolRet at Hs
    go_enter Try.func6, Try.ntmps6
    go_wp2_with fail
    refine (Hs.out _).mono ?_
    rintro e w' ⟨rfl, rfl⟩
    go_wp2_with fail
    refine (heads _).mono ?_
    rintro e w' ⟨rfl, b⟩
    go_wp2_with fail
    go_ret
    exact ⟨rfl, b⟩
  have hs : len0 ≤ 2000 := by omega
  rw [show (decide (len0 ≤ 2000 ∧ (⟨#[]⟩ : ByteArray).size ≤ 1000 ∧ 0 ≤ 300)) = true from decide_eq_true ⟨hs, by decide, by omega⟩] at Hs
  unfold BoolRet at Hs
  have Ha := hid (p_TakeText a0 len0 cap0 b hl hlc (by omega) _ a1 a2 (by unfold Oct.I64; omega) (by unfold Oct.I64; omega) w hbyt)
  have Hb := hid (r_TakeText a0 len0 cap0 b hl hlc (by omega) _ a1 a2 (by unfold Oct.I64; omega) (by unfold Oct.I64; omega) w hbyt)
  have Hc := hid (p_TakeList a0 len0 cap0 b hl hlc (by omega) _ a1 a2 (by unfold Oct.I64; omega) (by unfold Oct.I64; omega) w (Nat.le_refl _) hbyt)
  have Hd := hid (fun (w' : World) (hb : Below w.heap.size w w') => r_TakeList a0 len0 cap0 b hl (by omega) _ a1 a2 (by unfold Oct.I64; omega) (by unfold Oct.I64; omega) w' hb.size (hbyt.below hb (Nat.le_refl _)))
  have hsz : (Oct.tS b a1 a2).1.length ≤ 2000 := by
    by_cases he : (Oct.tS b a1 a2).2.2 = 0
    · have := (Oct.tS_inv b a1 a2 he).2.2.2.2.2.1
      omega
    · have : (Oct.tS b a1 a2).1 = [] := by
        unfold Oct.tS at he ⊢
        split
        · rfl
        · rename_i h1
          rw [if_neg h1] at he
          exact Oct.tN_nil _ _ _ he
      rw [this]; decide
  unfold TtRet at Ha Hb
  unfold TsRet at Hc Hd
  have I := hid (fun (A A' : Option Addr) (n c c' : Nat) (l : List Int) (hn : l.length = n) (w : World) (B B' : Nat) (h : Its w B A l) (h' : Its w B' A' l) (hm : l.length ≤ maxLen) => p_Ints A A' n n c c' l l hn hn w B B' h h' hm)
  unfold BoolDraw at I
  simp only [decide_true] at I
  generalize (Oct.tT b a1 a2).1 = x1 at *
  generalize (Oct.tT b a1 a2).2.1 = x2 at *
  generalize (Oct.tT b a1 a2).2.2 = x3 at *
  generalize (Oct.tS b a1 a2).1 = y1 at *
  generalize (Oct.tS b a1 a2).2.1 = y2 at *
  generalize (Oct.tS b a1 a2).2.2 = y3 at *
  clear w0 hbyt
  go_enter Try.func6, Try.ntmps6
  go_wp2_with fail
  refine (Hs.out _).mono ?_
  rintro e w' ⟨rfl, rfl⟩
  go_wp2_with fail
  refine (Ha.out).mono ?_
  rintro e w' ⟨rfl, rfl⟩
  go_wp2_with fail
  refine (Hb.out).mono ?_
  rintro e w' ⟨rfl, rfl⟩
  go_wp2_with fail
  refine (Hc.out).mono ?_
  rintro e w1 ⟨A1, c1, rfl, s1, _, b1⟩
  go_wp2_with fail
  refine (Hd.out _ b1).mono ?_
  rintro e w2 ⟨A2, c2, rfl, s2, _, b2⟩
  have G := hid (I.out A1 A2 y1.length c1 c2 y1 rfl w2 _ _ (s1.below b2 (Nat.le_refl _)) s2 (by unfold maxLen; omega))
  clear s1 s2
  go_wp2_with fail
  refine (G.out).mono ?_
  rintro e w3 ⟨rfl, n3, rfl⟩
  go_wp2_with fail
  refine (heads _).mono ?_
  rintro e w4 ⟨rfl, b4⟩
  go_wp2_with fail
  go_ret
  exact ⟨rfl, below2 (below2 b1 b2) (below2 (below_drewN (Below.refl _ _) n3) b4)⟩

/-! ### THE ROW's STEP: WRITTEN OUT: LEAVE IT -/
set_option maxRecDepth 100000 in
theorem lifted (os : Os) (started : os.Started) (H : Type) (enc : TypeId × Value → H) :
    ReturnsInHanded {} Try.checked os 6 .any (Rows.octetReadsSpec.pre6 enc Try.prog Try.f6 Rows.octetReadsRow.domain false) (Rows.octetReadsSpec.post enc Try.prog Try.f6 false true false false) := by
  refine returnsInHanded_of_change (C := Try.checked) own started (by kernel_rfl) Try.func6
    (ChangeSpec.witness6 (enc := enc) (C := Try.checked) false ⟨#[], #[.slice none 0 0, .int .i64 0, .int .i64 0], []⟩ 8 (by kernel_rfl) (by kernel_rfl) (by kernel_rfl) (by kernel_rfl)) ?_
  intro W base args ds gs before hval0 hW hcnd _
  have hval : ∀ (j : Nat) t v, Try.f6.params[j]? = some t → args[j]? = some v → Value.okWide Try.prog W .any base t v := hval0
  have hW' := hW
  obtain ⟨p, q, hA0, hV, rfl, hfz, hnd⟩ := hW
  have hA : DataW.TrodAll enc Try.prog W 0 (fun _ => true) true Try.f6.params.toList args.toList ds p := hA0
  rw [Try.params6] at hA hval
  obtain ⟨v0, vs0, d0, ds0, p0, q0, hargs, rfl, rfl, h0, r0⟩ := trodAll_cons hA
  obtain ⟨v1, vs1, d1, ds1, p1, q1, rfl, rfl, rfl, h1, r1⟩ := trodAll_cons r0
  obtain ⟨v2, vs2, d2, ds2, p2, q2, rfl, rfl, rfl, h2, r2⟩ := trodAll_cons r1
  obtain ⟨rfl, rfl, rfl⟩ := trodAll_nil r2
  obtain rfl : args = #[v0, v1, v2] := by cases args; simp_all
  obtain ⟨rfl, rfl⟩ := trodVars_none hV
  obtain ⟨a0, len0, cap0, rfl⟩ := okWide_slice Try.underlying24 (hval 0 24 v0 rfl rfl)
  have k0 := h0
  have lt0 : ∀ x ∈ p0, x.block < W.heap.size := by obtain ⟨m, hm⟩ := k0; exact DataW.trod_lt m _ _ _ hm
  obtain ⟨z0, w0⟩ : ∃ zs, IsRow .u8 W a0 len0 cap0 zs := by
    obtain ⟨fuel, hf⟩ := h0
    rcases open_ints Try.underlying24 Try.underlying5 (by kernel_rfl) hf with ⟨hcs, _⟩ | ⟨x, l, c, zs, hcs, _, hl, hm, hz, _, hcell, hwz⟩
    · simp [Value.cells] at hcs
      obtain ⟨rfl, rfl, rfl⟩ := hcs
      exact ⟨[], .inl ⟨rfl, rfl, rfl, rfl⟩⟩
    · simp [Value.cells] at hcs
      obtain ⟨rfl, rfl, rfl⟩ := hcs
      exact ⟨zs, .inr ⟨_, rfl, hl, hm, by simpa using hz, hcell, hwz⟩⟩
  obtain ⟨a1, rfl, rfl, rfl, w1⟩ := open_int Try.underlying3 (hval 1 3 v1 rfl rfl) h1
  obtain ⟨a2, rfl, rfl, rfl, w2⟩ := open_int Try.underlying3 (hval 2 3 v2 rfl rfl) h2
  clear hA0 hval0
  refine (walk a0 len0 cap0 z0 a1 a2 W w0 w1 w2).mono fun e W' ⟨he, bel⟩ => ?_
  subst he
  exact ⟨_, rfl, _, _, _, [], _, [], hW', trodAll_mk1 (shut_bool Try.underlying4 _), (trodAll_cons_mk (Below.trod laidOut (by kernel_rfl) (of_decide_eq_true (by kernel_rfl)) k0 bel lt0) (trodAll_cons_mk (shut_int Try.underlying3 w1) (trodAll_cons_mk (shut_int Try.underlying3 w2) trodAll_mk0))), rfl, bel.frame _, fun h => by cases h⟩

theorem over : Rows.octetReadsRow.holds Try.pinned (OpenSpec.ofChange Rows.octetReadsSpec) :=
  OpenClaim.holds_of_wide 6 Try.f6 rfl rfl rfl rfl rfl rfl rfl ⟨rfl, rfl, rfl, rfl, rfl⟩ rfl rfl rfl rfl rfl (by kernel_rfl) Try.func6 (by kernel_rfl)
    (of_decide_eq_true (by kernel_rfl)) (by unfold Func.isWrapper; first | (rw [if_pos (by decide +kernel)]; kernel_rfl) | (rw [if_neg (by decide +kernel)]; exact ⟨rfl, rfl⟩))
    (fun os started H enc _ => lifted os started H enc)

/-- ████ THE STATEMENT ████ -/
theorem proved : Rows.OctetReadsSaid := over
#print axioms proved
end Go.Proofs.Ytfnllijimmgaoaa.octetReads

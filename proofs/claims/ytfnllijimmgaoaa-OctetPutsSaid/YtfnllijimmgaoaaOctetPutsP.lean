/- Proves 'OctetPutsSaid': for every input the Go function OctetPuts returns true, and each argument reads afterwards as it read before. Conditions: none beyond the row's own. -/
import Derived.Test.YtfnllijimmgaoaaRows
import Derived.WalkKit
import Derived.ProofKit
import Derived.OpenShut
import Derived.ShutString
import Derived.SliceStrings
import Derived.ChangeOld
import Derived.Below
import Derived.Test.YtfnllijimmgaoaaOctT
namespace Go.Proofs.Ytfnllijimmgaoaa.octetPuts
open Go.ChangeShapes Go.WideShapes Go.ChangeAt Go.RowKit
open Go.ChangeMaps (open_string shut_string)
set_option linter.unusedVariables false

theorem own : ownKnob Try.prog.godebug = none := by kernel_rfl
theorem laidOut : laidOutB Try.prog = true := by kernel_rfl

/-- WHAT THE WALK IS TOLD OF A SLICE OF INTEGERS THAT CAME IN: it is nil; or it leads to a row of 'cap' cells, the numbers 'zs' (the first 'len' are its elements, the rest its spare room), each fitting its kind. -/
def IsRow (k : IntKind) (w : World) (a : Option Addr) (len cap : Nat) (zs : List Int) : Prop :=
  (a = none ∧ len = 0 ∧ cap = 0 ∧ zs = []) ∨
  ∃ x, a = some x ∧ len ≤ cap ∧ cap ≤ maxLen ∧ zs.length = cap ∧ (∀ i, i < zs.length → w.cell? (x.add i) = some (.int k (zs.getD i 0))) ∧ ∀ n ∈ zs, (Lit.int k n).wf = true

/-! ### STEP 1: THE WALK: the Go text returns true, AND WRITES NOTHING THAT WAS THERE: 'Below w.heap.size w w'' (Derived/Below.lean: '.refl', '.alloc', '.drew', '.setCell' at a new block, '.trans'). Open each 'IsRow' by 'rcases' AHEAD of 'go_enter'; part every test ahead of the walk. -/
set_option maxHeartbeats 400000 in
theorem walk (a0 : Int) (a1 : Int) (a2 : ByteArray) (a3 : Option Addr) (len3 cap3 : Nat) (z3 : List Int) (w : World) (w0 : (Lit.int .u64 a0).wf = true) (w1 : (Lit.int .i64 a1).wf = true) (w2 : a2.size ≤ maxLen) (w3 : IsRow .i64 w a3 len3 cap3 z3) :
    Calls Try.prog 4 #[.int .u64 a0, .int .i64 a1, .string a2, .slice a3 len3 cap3] w fun e w' => e = .returned (.bool true) ∧ Below w.heap.size w w' := by
  obtain ⟨u1, u2⟩ := bounds_u64 w0
  obtain ⟨n, rfl⟩ := Int.eq_ofNat_of_zero_le u1
  obtain ⟨k1, k2⟩ := bounds_i64 w1
  obtain ⟨l, hl, hits, hlc, hcm, hl64⟩ := open_its w3
  have Hs := hid (fun w => p_short none a3 0 len3 0 cap3 a2 w)
  by_cases hsn : ¬ (a2.size ≤ 1000 ∧ len3 ≤ 300)
  · rw [show (decide (0 ≤ 2000 ∧ a2.size ≤ 1000 ∧ len3 ≤ 300)) = false from decide_eq_false (fun h => hsn h.2)] at Hs
    unfold BoolRet at Hs
    clear hsn
    go_enter Try.func4, Try.ntmps4
    go_wp2_with fail
    refine (Hs.out _).mono ?_
    rintro e w' ⟨rfl, rfl⟩
    go_wp2_with fail
    refine (heads _).mono ?_
    rintro e w' ⟨rfl, b⟩
    go_wp2_with fail
    go_ret
    exact ⟨rfl, b⟩
  have hs : a2.size ≤ 1000 ∧ len3 ≤ 300 := by omega
  rw [show (decide (0 ≤ 2000 ∧ a2.size ≤ 1000 ∧ len3 ≤ 300)) = true from decide_eq_true ⟨by omega, hs.1, hs.2⟩] at Hs
  unfold BoolRet at Hs
  have P1 := hid (fun w => (p_Put n (by omega) w).mono (fun _ _ h => h.b))
  have R1 := hid (fun w => (r_Put n (by omega) w).mono (fun _ _ h => h.b))
  have P2 := hid (fun w => (p_PutInt a1 (by unfold Oct.I64; omega) w).mono (fun _ _ h => h.b))
  have R2 := hid (fun w => (r_PutInt a1 (by unfold Oct.I64; omega) w).mono (fun _ _ h => h.b))
  have P3 := hid (fun w => p_PutText a2 (by omega) w)
  have R3 := hid (fun w => r_PutText a2 (by omega) w)
  have P4 := hid (fun (w' : World) (hb : Below w.heap.size w w') => p_PutList a3 len3 cap3 l hl (by omega) hl64 w' _ hb.size (hits.below hb (Nat.le_refl _)))
  have R4 := hid (fun (w' : World) (hb : Below w.heap.size w w') => r_PutList a3 len3 cap3 l hl (by omega) hl64 w' _ hb.size (hits.below hb (Nat.le_refl _)))
  unfold BRet at P1 R1 P2 R2 P3 R3 P4 R4
  have Sm := hid (fun (A A' : Option Addr) (n c c' : Nat) (l : List UInt8) (hn : l.length = n) (B B' : Nat) (w : World) (h : Byt w B A l) (h' : Byt w B' A' l) => p_Same A A' n n c c' l l hn hn B B' w h h')
  unfold BoolRet at Sm
  simp only [decide_true] at Sm
  generalize Oct.pn n = q1 at *
  generalize Oct.pI a1 = q2 at *
  generalize Oct.pT a2.data.toList = q3 at *
  generalize Oct.pL l = q4 at *
  clear w3 hits hsn hs
  go_enter Try.func4, Try.ntmps4
  go_wp2_with fail
  refine (Hs.out _).mono ?_
  rintro e w' ⟨rfl, rfl⟩
  go_wp2_with fail
  refine (P1.out _).mono ?_
  rintro e v1 ⟨A1, c1, rfl, s1, _, b1⟩
  go_wp2_with fail
  refine (R1.out _).mono ?_
  rintro e v2 ⟨A2, c2, rfl, s2, _, b2⟩
  have G1 := hid (Sm.out A1 A2 _ c1 c2 q1 rfl _ _ v2 (s1.below b2 (Nat.le_refl _)) s2)
  clear s1 s2
  go_wp2_with fail
  refine (G1.out).mono ?_
  rintro e w' ⟨rfl, rfl⟩
  go_wp2_with fail
  refine (P2.out _).mono ?_
  rintro e v3 ⟨A3, c3, rfl, s3, _, b3⟩
  go_wp2_with fail
  refine (R2.out _).mono ?_
  rintro e v4 ⟨A4, c4, rfl, s4, _, b4⟩
  have G2 := hid (Sm.out A3 A4 _ c3 c4 q2 rfl _ _ v4 (s3.below b4 (Nat.le_refl _)) s4)
  clear s3 s4
  go_wp2_with fail
  refine (G2.out).mono ?_
  rintro e w' ⟨rfl, rfl⟩
  go_wp2_with fail
  refine (P3.out _).mono ?_
  rintro e v5 ⟨A5, c5, rfl, s5, _, b5⟩
  go_wp2_with fail
  refine (R3.out _).mono ?_
  rintro e v6 ⟨A6, c6, rfl, s6, _, b6⟩
  have G3 := hid (Sm.out A5 A6 _ c5 c6 q3 rfl _ _ v6 (s5.below b6 (Nat.le_refl _)) s6)
  clear s5 s6
  have bb : Below w.heap.size w v6 := below2 (below4 b1 b2 b3 b4) (below2 b5 b6)
  go_wp2_with fail
  refine (G3.out).mono ?_
  rintro e w' ⟨rfl, rfl⟩
  go_wp2_with fail
  refine (P4.out _ bb).mono ?_
  rintro e v7 ⟨A7, c7, rfl, s7, _, b7⟩
  go_wp2_with fail
  refine (R4.out _ (below2 bb b7)).mono ?_
  rintro e v8 ⟨A8, c8, rfl, s8, _, b8⟩
  have G4 := hid (Sm.out A7 A8 _ c7 c8 q4 rfl _ _ v8 (s7.below b8 (Nat.le_refl _)) s8)
  clear s7 s8
  go_wp2_with fail
  refine (G4.out).mono ?_
  rintro e w' ⟨rfl, rfl⟩
  go_wp2_with fail
  refine (heads _).mono ?_
  rintro e v9 ⟨rfl, b9⟩
  go_wp2_with fail
  go_ret
  exact ⟨rfl, below2 (below2 bb b7) (below2 b8 b9)⟩

/-! ### THE ROW's STEP: WRITTEN OUT: LEAVE IT -/
set_option maxRecDepth 100000 in
theorem lifted (os : Os) (started : os.Started) (H : Type) (enc : TypeId × Value → H) :
    ReturnsInHanded {} Try.checked os 4 .any (Rows.octetPutsSpec.pre6 enc Try.prog Try.f4 Rows.octetPutsRow.domain false) (Rows.octetPutsSpec.post enc Try.prog Try.f4 false true false false) := by
  refine returnsInHanded_of_change (C := Try.checked) own started (by kernel_rfl) Try.func4
    (ChangeSpec.witness6 (enc := enc) (C := Try.checked) false ⟨#[], #[.int .u64 0, .int .i64 0, .string ByteArray.empty, .slice none 0 0], []⟩ 8 (by kernel_rfl) (by kernel_rfl) (by kernel_rfl) (by kernel_rfl)) ?_
  intro W base args ds gs before hval0 hW hcnd _
  have hval : ∀ (j : Nat) t v, Try.f4.params[j]? = some t → args[j]? = some v → Value.okWide Try.prog W .any base t v := hval0
  have hW' := hW
  obtain ⟨p, q, hA0, hV, rfl, hfz, hnd⟩ := hW
  have hA : DataW.TrodAll enc Try.prog W 0 (fun _ => true) true Try.f4.params.toList args.toList ds p := hA0
  rw [Try.params4] at hA hval
  obtain ⟨v0, vs0, d0, ds0, p0, q0, hargs, rfl, rfl, h0, r0⟩ := trodAll_cons hA
  obtain ⟨v1, vs1, d1, ds1, p1, q1, rfl, rfl, rfl, h1, r1⟩ := trodAll_cons r0
  obtain ⟨v2, vs2, d2, ds2, p2, q2, rfl, rfl, rfl, h2, r2⟩ := trodAll_cons r1
  obtain ⟨v3, vs3, d3, ds3, p3, q3, rfl, rfl, rfl, h3, r3⟩ := trodAll_cons r2
  obtain ⟨rfl, rfl, rfl⟩ := trodAll_nil r3
  obtain rfl : args = #[v0, v1, v2, v3] := by cases args; simp_all
  obtain ⟨rfl, rfl⟩ := trodVars_none hV
  obtain ⟨a0, rfl, rfl, rfl, w0⟩ := open_int Try.underlying22 (hval 0 22 v0 rfl rfl) h0
  obtain ⟨a1, rfl, rfl, rfl, w1⟩ := open_int Try.underlying3 (hval 1 3 v1 rfl rfl) h1
  obtain ⟨a2, rfl, rfl, rfl, w2⟩ := open_string Try.underlying9 (hval 2 9 v2 rfl rfl) h2
  obtain ⟨a3, len3, cap3, rfl⟩ := okWide_slice Try.underlying23 (hval 3 23 v3 rfl rfl)
  have k3 := h3
  have lt3 : ∀ x ∈ p3, x.block < W.heap.size := by obtain ⟨m, hm⟩ := k3; exact DataW.trod_lt m _ _ _ hm
  obtain ⟨z3, w3⟩ : ∃ zs, IsRow .i64 W a3 len3 cap3 zs := by
    obtain ⟨fuel, hf⟩ := h3
    rcases open_ints Try.underlying23 Try.underlying3 (by kernel_rfl) hf with ⟨hcs, _⟩ | ⟨x, l, c, zs, hcs, _, hl, hm, hz, _, hcell, hwz⟩
    · simp [Value.cells] at hcs
      obtain ⟨rfl, rfl, rfl⟩ := hcs
      exact ⟨[], .inl ⟨rfl, rfl, rfl, rfl⟩⟩
    · simp [Value.cells] at hcs
      obtain ⟨rfl, rfl, rfl⟩ := hcs
      exact ⟨zs, .inr ⟨_, rfl, hl, hm, by simpa using hz, hcell, hwz⟩⟩
  clear hA0 hval0
  refine (walk a0 a1 a2 a3 len3 cap3 z3 W w0 w1 w2 w3).mono fun e W' ⟨he, bel⟩ => ?_
  subst he
  exact ⟨_, rfl, _, _, _, [], _, [], hW', trodAll_mk1 (shut_bool Try.underlying4 _), (trodAll_cons_mk (shut_int Try.underlying22 w0) (trodAll_cons_mk (shut_int Try.underlying3 w1) (trodAll_cons_mk (shut_string Try.underlying9 w2) (trodAll_cons_mk (Below.trod laidOut (by kernel_rfl) (of_decide_eq_true (by kernel_rfl)) k3 bel lt3) trodAll_mk0)))), rfl, bel.frame _, fun h => by cases h⟩

theorem over : Rows.octetPutsRow.holds Try.pinned (OpenSpec.ofChange Rows.octetPutsSpec) :=
  OpenClaim.holds_of_wide 4 Try.f4 rfl rfl rfl rfl rfl rfl rfl ⟨rfl, rfl, rfl, rfl, rfl⟩ rfl rfl rfl rfl rfl (by kernel_rfl) Try.func4 (by kernel_rfl)
    (of_decide_eq_true (by kernel_rfl)) (by unfold Func.isWrapper; first | (rw [if_pos (by decide +kernel)]; kernel_rfl) | (rw [if_neg (by decide +kernel)]; exact ⟨rfl, rfl⟩))
    (fun os started H enc _ => lifted os started H enc)

/-- ████ THE STATEMENT ████ -/
theorem proved : Rows.OctetPutsSaid := over
#print axioms proved
end Go.Proofs.Ytfnllijimmgaoaa.octetPuts

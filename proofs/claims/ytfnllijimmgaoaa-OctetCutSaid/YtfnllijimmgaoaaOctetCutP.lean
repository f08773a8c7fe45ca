/- Proves 'OctetCutSaid': for every input the Go function OctetCut returns true, and each argument reads afterwards as it read before. Conditions: none beyond the row's own. -/
import Derived.Test.YtfnllijimmgaoaaRows
import Derived.WalkKit
import Derived.ProofKit
import Derived.OpenShut
import Derived.ShutString
import Derived.SliceStrings
import Derived.ChangeOld
import Derived.Below
import Derived.Test.YtfnllijimmgaoaaOctG
namespace Go.Proofs.Ytfnllijimmgaoaa.octetCut
open Go.ChangeShapes Go.WideShapes Go.ChangeAt Go.RowKit
open Go.ChangeMaps (open_string shut_string)
set_option linter.unusedVariables false

theorem own : ownKnob Try.prog.godebug = none := by kernel_rfl
theorem laidOut : laidOutB Try.prog = true := by kernel_rfl

/-- WHAT THE WALK IS TOLD OF A SLICE OF INTEGERS THAT CAME IN: it is nil; or it leads to a row of 'cap' cells, the numbers 'zs' (the first 'len' are its elements, the rest its spare room), each fitting its kind. -/
def IsRow (k : IntKind) (w : World) (a : Option Addr) (len cap : Nat) (zs : List Int) : Prop :=
  (a = none ∧ len = 0 ∧ cap = 0 ∧ zs = []) ∨
  ∃ x, a = some x ∧ len ≤ cap ∧ cap ≤ maxLen ∧ zs.length = cap ∧ (∀ i, i < zs.length → w.cell? (x.add i) = some (.int k (zs.getD i 0))) ∧ ∀ n ∈ zs, (Lit.int k n).wf = true

/-! ### STEP 1: THE WALK: the Go text returns true, AND WRITES NOTHING THAT WAS THERE: 'Below w.heap.size w w'' (Derived/Below.lean: '.refl', '.alloc', '.drew', '.setCell' at a new block, '.trans'). Open each 'IsRow' by 'rcases' AHEAD of 'go_enter'; part every test ahead of the walk. -/
theorem walk (a0 : Int) (a1 : ByteArray) (a2 : Int) (w : World) (w0 : (Lit.int .u64 a0).wf = true) (w1 : a1.size ≤ maxLen) (w2 : (Lit.int .i64 a2).wf = true) :
    Calls Try.prog 8 #[.int .u64 a0, .string a1, .int .i64 a2] w fun e w' => e = .returned (.bool true) ∧ Below w.heap.size w w' := by
  obtain ⟨u1, u2⟩ := bounds_u64 w0
  obtain ⟨n, rfl⟩ := Int.eq_ofNat_of_zero_le u1
  obtain ⟨k1, k2⟩ := bounds_i64 w2
  have Hs := hid (fun w => p_short none none 0 0 0 0 a1 w)
  by_cases hsn : ¬ a1.size ≤ 1000
  · rw [show (decide (0 ≤ 2000 ∧ a1.size ≤ 1000 ∧ 0 ≤ 300)) = false from decide_eq_false (fun h => hsn h.2.1)] at Hs
    unfold BoolRet at Hs
    go_enter Try.func8, Try.ntmps8
    go_wp2_with fail
    refine (Hs.out _).mono ?_
    rintro e w' ⟨rfl, rfl⟩
    go_wp2_with fail
    refine (heads _).mono ?_
    rintro e w' ⟨rfl, b⟩
    go_wp2_with fail
    go_ret
    exact ⟨rfl, b⟩
  have hs : a1.size ≤ 1000 := by omega
  rw [show (decide (0 ≤ 2000 ∧ a1.size ≤ 1000 ∧ 0 ≤ 300)) = true from decide_eq_true ⟨by omega, hs, by omega⟩] at Hs
  unfold BoolRet at Hs
  by_cases hk : a2 < 0
  · go_enter Try.func8, Try.ntmps8
    go_wp2_with fail
    refine (Hs.out _).mono ?_
    rintro e w' ⟨rfl, rfl⟩
    go_wp2_with fail
    refine (heads _).mono ?_
    rintro e w' ⟨rfl, b⟩
    go_wp2_with fail
    go_ret
    exact ⟨rfl, b⟩
  obtain ⟨k, rfl⟩ := Int.eq_ofNat_of_zero_le (show 0 ≤ a2 by omega)
  have hn : n < 18446744073709551616 := by omega
  have Hp := hid (fun w => p_Put n hn w)
  have Hq := hid (fun w => p_PutText a1 (by omega) w)
  unfold PutRet at Hp
  unfold BRet at Hq
  have hl10 := Oct.pn_len10 hn
  have hcp := Oct.tA_cut n hn k
  have hcq := Oct.tT_cut a1.data.toList (by rw [data_len]; exact hs) k
  have hql : (Oct.pT a1.data.toList).length ≤ 1010 := by
    unfold Oct.pT
    rw [List.length_append, data_len]
    have := Oct.pn_len10 (n := a1.size) (by omega)
    omega
  generalize Oct.pn n = p at *
  generalize Oct.pT a1.data.toList = q at *
  by_cases h1 : k < p.length
  · have Ht := hid (fun A (w : World) (h : Byt w w.heap.size A (p.take k)) => p_Take A k p.length (p.take k) (by rw [List.length_take]; omega) (by omega) (by omega) _ 0 (by unfold Oct.I64; omega) w h)
    unfold TkRet at Ht
    rw [hcp h1] at Ht
    have h1' : (k : Int) < p.length := by omega
    have h1a : (k : Int) ≤ p.length := by omega
    by_cases h2 : k < q.length
    · have Hu := hid (fun A c (hc : q.length ≤ c) (w : World) (h : Byt w w.heap.size A (q.take k)) => p_TakeText A k c (q.take k) (by rw [List.length_take]; omega) (by omega) (by omega) _ 0 1000 (by unfold Oct.I64; omega) (by unfold Oct.I64; omega) w h)
      unfold TtRet at Hu
      rw [hcq h2] at Hu
      have h2' : (k : Int) < q.length := by omega
      go_enter Try.func8, Try.ntmps8
      go_wp2_with fail
      refine (Hs.out _).mono ?_
      rintro e w' ⟨rfl, rfl⟩
      go_wp2_with fail
      refine (Hp.out _).mono ?_
      rintro e w1 ⟨g, rfl, _, s1, b1⟩
      go_wp2_with fail
      refine (Hq.out _).mono ?_
      rintro e w2 ⟨A2, c2, rfl, s2, hc2, b2⟩
      have S1 := hid (Byt.pre ((s1.below b2 (Nat.le_refl _)).more b2.size) k)
      have S2 := hid (s2.pre k)
      have hc2' : (k : Int) ≤ c2 := by omega
      clear s1 s2
      go_wp2_with fail
      refine (Ht.out _ _ S1.out).mono ?_
      rintro e w' ⟨rfl, rfl⟩
      go_wp2_with fail
      refine (Hu.out _ _ hc2 _ S2.out).mono ?_
      rintro e w' ⟨rfl, rfl⟩
      go_wp2_with fail
      refine (heads _).mono ?_
      rintro e w3 ⟨rfl, b3⟩
      go_wp2_with fail
      go_ret
      exact ⟨rfl, below3 b1 b2 b3⟩
    · have h2' : ¬ (k : Int) < q.length := by omega
      go_enter Try.func8, Try.ntmps8
      go_wp2_with fail
      refine (Hs.out _).mono ?_
      rintro e w' ⟨rfl, rfl⟩
      go_wp2_with fail
      refine (Hp.out _).mono ?_
      rintro e w1 ⟨g, rfl, _, s1, b1⟩
      go_wp2_with fail
      refine (Hq.out _).mono ?_
      rintro e w2 ⟨A2, c2, rfl, s2, hc2, b2⟩
      have S1 := hid (Byt.pre ((s1.below b2 (Nat.le_refl _)).more b2.size) k)
      clear s1 s2
      go_wp2_with fail
      refine (Ht.out _ _ S1.out).mono ?_
      rintro e w' ⟨rfl, rfl⟩
      go_wp2_with fail
      refine (heads _).mono ?_
      rintro e w3 ⟨rfl, b3⟩
      go_wp2_with fail
      go_ret
      exact ⟨rfl, below3 b1 b2 b3⟩
  · have h1' : ¬ (k : Int) < p.length := by omega
    by_cases h2 : k < q.length
    · have Hu := hid (fun A c (hc : q.length ≤ c) (w : World) (h : Byt w w.heap.size A (q.take k)) => p_TakeText A k c (q.take k) (by rw [List.length_take]; omega) (by omega) (by omega) _ 0 1000 (by unfold Oct.I64; omega) (by unfold Oct.I64; omega) w h)
      unfold TtRet at Hu
      rw [hcq h2] at Hu
      have h2' : (k : Int) < q.length := by omega
      go_enter Try.func8, Try.ntmps8
      go_wp2_with fail
      refine (Hs.out _).mono ?_
      rintro e w' ⟨rfl, rfl⟩
      go_wp2_with fail
      refine (Hp.out _).mono ?_
      rintro e w1 ⟨g, rfl, _, s1, b1⟩
      go_wp2_with fail
      refine (Hq.out _).mono ?_
      rintro e w2 ⟨A2, c2, rfl, s2, hc2, b2⟩
      have S2 := hid (s2.pre k)
      have hc2' : (k : Int) ≤ c2 := by omega
      clear s1 s2
      go_wp2_with fail
      refine (Hu.out _ _ hc2 _ S2.out).mono ?_
      rintro e w' ⟨rfl, rfl⟩
      go_wp2_with fail
      refine (heads _).mono ?_
      rintro e w3 ⟨rfl, b3⟩
      go_wp2_with fail
      go_ret
      exact ⟨rfl, below3 b1 b2 b3⟩
    · have h2' : ¬ (k : Int) < q.length := by omega
      go_enter Try.func8, Try.ntmps8
      go_wp2_with fail
      refine (Hs.out _).mono ?_
      rintro e w' ⟨rfl, rfl⟩
      go_wp2_with fail
      refine (Hp.out _).mono ?_
      rintro e w1 ⟨g, rfl, _, s1, b1⟩
      go_wp2_with fail
      refine (Hq.out _).mono ?_
      rintro e w2 ⟨A2, c2, rfl, s2, hc2, b2⟩
      clear s1 s2
      go_wp2_with fail
      refine (heads _).mono ?_
      rintro e w3 ⟨rfl, b3⟩
      go_wp2_with fail
      go_ret
      exact ⟨rfl, below3 b1 b2 b3⟩

/-! ### THE ROW's STEP: WRITTEN OUT: LEAVE IT -/
set_option maxRecDepth 100000 in
theorem lifted (os : Os) (started : os.Started) (H : Type) (enc : TypeId × Value → H) :
    ReturnsInHanded {} Try.checked os 8 .any (Rows.octetCutSpec.pre6 enc Try.prog Try.f8 Rows.octetCutRow.domain false) (Rows.octetCutSpec.post enc Try.prog Try.f8 false true false false) := by
  refine returnsInHanded_of_change (C := Try.checked) own started (by kernel_rfl) Try.func8
    (ChangeSpec.witness6 (enc := enc) (C := Try.checked) false ⟨#[], #[.int .u64 0, .string ByteArray.empty, .int .i64 0], []⟩ 8 (by kernel_rfl) (by kernel_rfl) (by kernel_rfl) (by kernel_rfl)) ?_
  intro W base args ds gs before hval0 hW hcnd _
  have hval : ∀ (j : Nat) t v, Try.f8.params[j]? = some t → args[j]? = some v → Value.okWide Try.prog W .any base t v := hval0
  have hW' := hW
  obtain ⟨p, q, hA0, hV, rfl, hfz, hnd⟩ := hW
  have hA : DataW.TrodAll enc Try.prog W 0 (fun _ => true) true Try.f8.params.toList args.toList ds p := hA0
  rw [Try.params8] at hA hval
  obtain ⟨v0, vs0, d0, ds0, p0, q0, hargs, rfl, rfl, h0, r0⟩ := trodAll_cons hA
  obtain ⟨v1, vs1, d1, ds1, p1, q1, rfl, rfl, rfl, h1, r1⟩ := trodAll_cons r0
  obtain ⟨v2, vs2, d2, ds2, p2, q2, rfl, rfl, rfl, h2, r2⟩ := trodAll_cons r1
  obtain ⟨rfl, rfl, rfl⟩ := trodAll_nil r2
  obtain rfl : args = #[v0, v1, v2] := by cases args; simp_all
  obtain ⟨rfl, rfl⟩ := trodVars_none hV
  obtain ⟨a0, rfl, rfl, rfl, w0⟩ := open_int Try.underlying22 (hval 0 22 v0 rfl rfl) h0
  obtain ⟨a1, rfl, rfl, rfl, w1⟩ := open_string Try.underlying9 (hval 1 9 v1 rfl rfl) h1
  obtain ⟨a2, rfl, rfl, rfl, w2⟩ := open_int Try.underlying3 (hval 2 3 v2 rfl rfl) h2
  clear hA0 hval0
  refine (walk a0 a1 a2 W w0 w1 w2).mono fun e W' ⟨he, bel⟩ => ?_
  subst he
  exact ⟨_, rfl, _, _, _, [], _, [], hW', trodAll_mk1 (shut_bool Try.underlying4 _), (trodAll_cons_mk (shut_int Try.underlying22 w0) (trodAll_cons_mk (shut_string Try.underlying9 w1) (trodAll_cons_mk (shut_int Try.underlying3 w2) trodAll_mk0))), rfl, bel.frame _, fun h => by cases h⟩

theorem over : Rows.octetCutRow.holds Try.pinned (OpenSpec.ofChange Rows.octetCutSpec) :=
  OpenClaim.holds_of_wide 8 Try.f8 rfl rfl rfl rfl rfl rfl rfl ⟨rfl, rfl, rfl, rfl, rfl⟩ rfl rfl rfl rfl rfl (by kernel_rfl) Try.func8 (by kernel_rfl)
    (of_decide_eq_true (by kernel_rfl)) (by unfold Func.isWrapper; first | (rw [if_pos (by decide +kernel)]; kernel_rfl) | (rw [if_neg (by decide +kernel)]; exact ⟨rfl, rfl⟩))
    (fun os started H enc _ => lifted os started H enc)

/-- ████ THE STATEMENT ████ -/
theorem proved : Rows.OctetCutSaid := over
#print axioms proved
end Go.Proofs.Ytfnllijimmgaoaa.octetCut

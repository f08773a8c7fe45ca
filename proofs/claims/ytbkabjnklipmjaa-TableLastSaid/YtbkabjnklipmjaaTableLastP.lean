/- Proves 'TableLastSaid': for every input the Go function TableLast returns true, and each argument reads afterwards as it read before. Conditions: none beyond the row's own. -/
import Derived.Test.YtbkabjnklipmjaaRows
import Derived.WalkKit
import Derived.ProofKit
import Derived.OpenShut
import Derived.ShutString
import Derived.SliceStrings
import Derived.ChangeOld
import Derived.Below
import Derived.Test.YtbkabjnklipmjaaTabX
namespace Go.Proofs.Ytbkabjnklipmjaa.tableLast
open Go.ChangeShapes Go.WideShapes Go.ChangeAt Go.RowKit
open Go.ChangeMaps (open_string shut_string)
set_option linter.unusedVariables false

theorem own : ownKnob Try.prog.godebug = none := by kernel_rfl
theorem laidOut : laidOutB Try.prog = true := by kernel_rfl

/-- WHAT THE WALK IS TOLD OF A SLICE OF INTEGERS THAT CAME IN: it is nil; or it leads to a row of 'cap' cells, the numbers 'zs' (the first 'len' are its elements, the rest its spare room), each fitting its kind. -/
def IsRow (k : IntKind) (w : World) (a : Option Addr) (len cap : Nat) (zs : List Int) : Prop :=
  (a = none ∧ len = 0 ∧ cap = 0 ∧ zs = []) ∨
  ∃ x, a = some x ∧ len ≤ cap ∧ cap ≤ maxLen ∧ zs.length = cap ∧ (∀ i, i < zs.length → w.cell? (x.add i) = some (.int k (zs.getD i 0))) ∧ ∀ n ∈ zs, (Lit.int k n).wf = true

/-! ### STEP 1: THE WALK: the Go text returns true, AND WRITES NOTHING THAT WAS THERE: 'Below w.heap.size w w'' (Derived/Below.lean: '.refl', '.alloc', '.drew', '.setCell' at a new block, '.trans'). Open each 'IsRow' by 'rcases' AHEAD of 'go_enter'; part every test ahead of the walk. -/
set_option maxRecDepth 20000 in
set_option maxHeartbeats 16000000 in
theorem walk (a0 : Option Addr) (len0 cap0 : Nat) (z0 : List Opv) (a1 : ByteArray) (a2 : ByteArray) (a3 : ByteArray) (w : World) (w0 : IsRowO w a0 len0 cap0 z0) (w1 : a1.size ≤ maxLen) (w2 : a2.size ≤ maxLen) (w3 : a3.size ≤ maxLen) :
    Calls Try.prog 8 #[.slice a0 len0 cap0, .string a1, .string a2, .string a3] w fun e w' => e = .returned (.bool true) ∧ Below w.heap.size w w' := by
  obtain ⟨hl, hlc, hcm, hops, _⟩ := w0
  obtain ⟨key, rfl⟩ : ∃ l, a1 = bs l := ⟨_, (of_bs a1).symm⟩
  obtain ⟨v, rfl⟩ : ∃ l, a2 = bs l := ⟨_, (of_bs a2).symm⟩
  obtain ⟨other, rfl⟩ : ∃ l, a3 = bs l := ⟨_, (of_bs a3).symm⟩
  clear w1 w2 w3
  by_cases hbig : (100 : Int) < len0
  · clear hops
    go_enter Try.func8, Try.ntmps8
    go_wp2_with fail
    refine (heads _).mono ?_
    rintro e w' ⟨rfl, b⟩
    go_wp2_with fail
    go_ret
    exact ⟨rfl, b⟩
  have hbig' : (len0 : Int) ≤ 100 := by omega
  have M := hid (l_made a0 len0 cap0 z0 hl (by omega) _ w (Nat.le_refl _) hops)
  unfold MadeRet at M
  have hml : (madeM z0).length ≤ 100 := by
    have := (madeM_facts z0 z0.length).2
    rw [List.take_length] at this
    omega
  have hsr : Tbm.Srt (madeM z0) := by
    have := (madeM_facts z0 z0.length).1
    rwa [List.take_length] at this
  generalize madeM z0 = m at *
  clear hops hbig
  have hln := hid (Tbm.len_put hsr key v)
  have hpl : (Tbm.put m key v).length ≤ 10000 := by rw [hln.out]; split <;> omega
  have hdl : (Tbm.del (Tbm.put m key v) key).length ≤ 10000 := by
    have := Tbm.len_del (hsr.put key v) key
    omega
  have hg1 := hid (Tbm.get_put m key v key)
  rw [if_pos rfl] at hg1
  have hg2 := hid (Tbm.get_put m key v other)
  have hg3 := hid (Tbm.get_del (Tbm.put m key v) key key)
  rw [if_pos rfl] at hg3
  have evv : ((bs v).toList == v) = true := by rw [toList_bs]; simp
  generalize hm1 : Tbm.put m key v = m1 at *
  generalize hm2 : Tbm.del m1 key = m2 at *
  have hmm1 := hid hm1
  have hmm2 := hid hm2
  clear hm1 hm2 hsr
  generalize hh : (Tbm.get m key).isSome = had at *
  generalize hk : ((Tbm.get m key).getD []) = ak at *
  generalize hoo : (Tbm.get m other).isSome = ok at *
  generalize hao : (Tbm.get m other).getD [] = a at *
  generalize hst : (Tbm.get m1 other).isSome = st at *
  generalize hcc : (Tbm.get m1 other).getD [] = cc at *
  go_enter Try.func8, Try.ntmps8
  go_wp2_with fail
  refine (M.out).mono ?_
  rintro e w1 ⟨p, A, c, rfl, hc, hT, b1⟩
  have t1 := hT.tb
  clear hT
  have K1 := hid (o_Get t1 (by omega) other)
  unfold GotRet at K1
  rw [hoo, hao] at K1
  have T1 := hid t1
  clear t1
  go_wp2_with fail
  refine (K1.out).mono ?_
  rintro e w2 ⟨rfl, b2⟩
  have t2 := T1.out.below b2
  clear T1 K1
  have b12 := below2 b1 b2
  have K2 := hid (o_Len t2 (by omega))
  unfold LenRet at K2
  have T2 := hid t2
  clear t2
  go_wp2_with fail
  refine (K2.out).mono ?_
  rintro e w3 ⟨rfl, b3⟩
  have t3 := T2.out.below b3
  clear T2 K2
  have b13 := below2 b12 b3
  have K3 := hid (o_Get t3 (by omega) key)
  unfold GotRet at K3
  rw [hh, hk] at K3
  have T3 := hid t3
  clear t3
  go_wp2_with fail
  refine (K3.out).mono ?_
  rintro e w4 ⟨rfl, b4⟩
  have t4 := T3.out.below b4
  clear T3 K3
  have b14 := below2 b13 b4
  have K4 := hid (o_Put t4 b14.size (by omega) key v)
  rw [hmm1.out] at K4
  clear t4
  go_wp2_with fail
  refine (K4.out).mono ?_
  rintro e w5 ⟨rfl, t5, b5⟩
  have b15 := b14.trans b5
  clear K4
  have K5 := hid (o_Get t5 (by omega) key)
  unfold GotRet at K5
  rw [hg1.out] at K5
  have T5 := hid t5
  clear t5
  go_wp2_with fail
  refine (K5.out).mono ?_
  rintro e w6 ⟨rfl, b6⟩
  have t6 := T5.out.below b6
  clear T5 K5
  have b16 := below2 b15 b6
  have K6 := hid (o_Get t6 (by omega) other)
  unfold GotRet at K6
  rw [hst, hcc] at K6
  have T6 := hid t6
  clear t6
  go_wp2_with fail
  refine (K6.out).mono ?_
  rintro e w7 ⟨rfl, b7⟩
  have t7 := T6.out.below b7
  clear T6 K6
  have b17 := below2 b16 b7
  have K7 := hid (o_Len t7 (by omega))
  unfold LenRet at K7
  have T7 := hid t7
  clear t7
  clear b1 b2 b3 b4 b5 b6 b7 b12 b13 b14 b15 b16
  clear M hl hlc hcm hbig' hc hml
  have g := hg2.out
  by_cases hko : key = other
  · subst hko
    clear hst hcc g hg2
    have ekk : (!((bs key).toList == key)) = false := by rw [toList_bs]; simp
    cases had
    · have hn1 : m1.length ≤ m.length + 1 := by rw [hln.out]; simp
      have hn2 : m.length + 1 ≤ m1.length := by rw [hln.out]; simp
      clear hln
      go_wp2_with fail
      refine (K7.out).mono ?_
      rintro e w8 ⟨rfl, b8⟩
      have t8 := T7.out.below b8
      have b18 := below2 b17 b8
      have K8 := hid (o_Delete t8 b18.size (by omega) key)
      rw [hg1.out, hmm2.out] at K8
      clear t8
      go_wp2_with fail
      refine (K8.out).mono ?_
      rintro e w9 ⟨rfl, t9, b9⟩
      have b19 := b18.trans b9
      have K9 := hid (o_Delete t9 b19.size (by omega) key)
      rw [hg3.out] at K9
      clear t9
      go_wp2_with fail
      refine (K9.out).mono ?_
      rintro e w10 ⟨rfl, _, b10⟩
      have b1a := b19.trans b10
      go_wp2_with fail
      refine (heads _).mono ?_
      rintro e w11 ⟨rfl, b11⟩
      go_wp2_with fail
      go_ret
      exact ⟨rfl, below2 b1a b11⟩
    · have hn1 : m1.length ≤ m.length := by rw [hln.out]; simp
      have hn2 : m.length ≤ m1.length := by rw [hln.out]; simp
      clear hln
      go_wp2_with fail
      refine (K7.out).mono ?_
      rintro e w8 ⟨rfl, b8⟩
      have t8 := T7.out.below b8
      have b18 := below2 b17 b8
      have K8 := hid (o_Delete t8 b18.size (by omega) key)
      rw [hg1.out, hmm2.out] at K8
      clear t8
      go_wp2_with fail
      refine (K8.out).mono ?_
      rintro e w9 ⟨rfl, t9, b9⟩
      have b19 := b18.trans b9
      have K9 := hid (o_Delete t9 b19.size (by omega) key)
      rw [hg3.out] at K9
      clear t9
      go_wp2_with fail
      refine (K9.out).mono ?_
      rintro e w10 ⟨rfl, _, b10⟩
      have b1a := b19.trans b10
      go_wp2_with fail
      refine (heads _).mono ?_
      rintro e w11 ⟨rfl, b11⟩
      go_wp2_with fail
      go_ret
      exact ⟨rfl, below2 b1a b11⟩
  · rw [if_neg hko] at g
    rw [g, hoo] at hst
    rw [g, hao] at hcc
    subst hst hcc
    clear g hg2
    have ekk : ¬ (bs other).toList = (bs key).toList := by rw [toList_bs, toList_bs]; exact fun h => hko h.symm
    have eaa : ((bs a).toList == a) = true := by rw [toList_bs]; simp
    have eok : (ok == ok) = true := by simp
    clear hko
    cases had
    · have hn1 : m1.length ≤ m.length + 1 := by rw [hln.out]; simp
      have hn2 : m.length + 1 ≤ m1.length := by rw [hln.out]; simp
      clear hln
      go_wp2_with fail
      refine (K7.out).mono ?_
      rintro e w8 ⟨rfl, b8⟩
      have t8 := T7.out.below b8
      have b18 := below2 b17 b8
      have K8 := hid (o_Delete t8 b18.size (by omega) key)
      rw [hg1.out, hmm2.out] at K8
      clear t8
      go_wp2_with fail
      refine (K8.out).mono ?_
      rintro e w9 ⟨rfl, t9, b9⟩
      have b19 := b18.trans b9
      have K9 := hid (o_Delete t9 b19.size (by omega) key)
      rw [hg3.out] at K9
      clear t9
      go_wp2_with fail
      refine (K9.out).mono ?_
      rintro e w10 ⟨rfl, _, b10⟩
      have b1a := b19.trans b10
      go_wp2_with fail
      refine (heads _).mono ?_
      rintro e w11 ⟨rfl, b11⟩
      go_wp2_with fail
      go_ret
      exact ⟨rfl, below2 b1a b11⟩
    · have hn1 : m1.length ≤ m.length := by rw [hln.out]; simp
      have hn2 : m.length ≤ m1.length := by rw [hln.out]; simp
      clear hln
      go_wp2_with fail
      refine (K7.out).mono ?_
      rintro e w8 ⟨rfl, b8⟩
      have t8 := T7.out.below b8
      have b18 := below2 b17 b8
      have K8 := hid (o_Delete t8 b18.size (by omega) key)
      rw [hg1.out, hmm2.out] at K8
      clear t8
      go_wp2_with fail
      refine (K8.out).mono ?_
      rintro e w9 ⟨rfl, t9, b9⟩
      have b19 := b18.trans b9
      have K9 := hid (o_Delete t9 b19.size (by omega) key)
      rw [hg3.out] at K9
      clear t9
      go_wp2_with fail
      refine (K9.out).mono ?_
      rintro e w10 ⟨rfl, _, b10⟩
      have b1a := b19.trans b10
      go_wp2_with fail
      refine (heads _).mono ?_
      rintro e w11 ⟨rfl, b11⟩
      go_wp2_with fail
      go_ret
      exact ⟨rfl, below2 b1a b11⟩

/-! ### THE ROW's STEP: WRITTEN OUT: LEAVE IT -/
set_option maxRecDepth 100000 in
theorem lifted (os : Os) (started : os.Started) (H : Type) (enc : TypeId × Value → H) :
    ReturnsInHanded {} Try.checked os 8 .any (Rows.tableLastSpec.pre6 enc Try.prog Try.f8 Rows.tableLastRow.domain false) (Rows.tableLastSpec.post enc Try.prog Try.f8 false true false false) := by
  refine returnsInHanded_of_change (C := Try.checked) own started (by kernel_rfl) Try.func8
    (ChangeSpec.witness6 (enc := enc) (C := Try.checked) false ⟨#[], #[.slice none 0 0, .string ByteArray.empty, .string ByteArray.empty, .string ByteArray.empty], []⟩ 8 (by kernel_rfl) (by kernel_rfl) (by kernel_rfl) (by kernel_rfl)) ?_
  intro W base args ds gs before hval0 hW hcnd _
  have hval : ∀ (j : Nat) t v, Try.f8.params[j]? = some t → args[j]? = some v → Value.okWide Try.prog W .any base t v := hval0
  have hW' := hW
  obtain ⟨p, q, hA0, hV, rfl, hfz, hnd⟩ := hW
  have hA : DataW.TrodAll enc Try.prog W 0 (fun _ => true) true Try.f8.params.toList args.toList ds p := hA0
  rw [Try.params8] at hA hval
  obtain ⟨v0, vs0, d0, ds0, p0, q0, hargs, rfl, rfl, h0, r0⟩ := trodAll_cons hA
  obtain ⟨v1, vs1, d1, ds1, p1, q1, rfl, rfl, rfl, h1, r1⟩ := trodAll_cons r0
  obtain ⟨v2, vs2, d2, ds2, p2, q2, rfl, rfl, rfl, h2, r2⟩ := trodAll_cons r1
  obtain ⟨v3, vs3, d3, ds3, p3, q3, rfl, rfl, rfl, h3, r3⟩ := trodAll_cons r2
  obtain ⟨rfl, rfl, rfl⟩ := trodAll_nil r3
  obtain rfl : args = #[v0, v1, v2, v3] := by cases args; simp_all
  obtain ⟨rfl, rfl⟩ := trodVars_none hV
  obtain ⟨a0, len0, cap0, rfl⟩ := okWide_slice Try.underlying22 (hval 0 22 v0 rfl rfl)
  have k0 := h0
  have lt0 : ∀ x ∈ p0, x.block < W.heap.size := by obtain ⟨m, hm⟩ := k0; exact DataW.trod_lt m _ _ _ hm
  obtain ⟨z0, w0⟩ : ∃ zs, IsRowO W a0 len0 cap0 zs := by
    obtain ⟨fuel, hf⟩ := h0
    exact open_ops Try.underlying22 Try.underlying33 (by kernel_rfl) (by kernel_rfl) Try.underlying3 Try.underlying9 Try.underlying9 hf
  obtain ⟨a1, rfl, rfl, rfl, w1⟩ := open_string Try.underlying9 (hval 1 9 v1 rfl rfl) h1
  obtain ⟨a2, rfl, rfl, rfl, w2⟩ := open_string Try.underlying9 (hval 2 9 v2 rfl rfl) h2
  obtain ⟨a3, rfl, rfl, rfl, w3⟩ := open_string Try.underlying9 (hval 3 9 v3 rfl rfl) h3
  clear hA0 hval0
  refine (walk a0 len0 cap0 z0 a1 a2 a3 W w0 w1 w2 w3).mono fun e W' ⟨he, bel⟩ => ?_
  subst he
  exact ⟨_, rfl, _, _, _, [], _, [], hW', trodAll_mk1 (shut_bool Try.underlying4 _), (trodAll_cons_mk (Below.trod laidOut (by kernel_rfl) (of_decide_eq_true (by kernel_rfl)) k0 bel lt0) (trodAll_cons_mk (shut_string Try.underlying9 w1) (trodAll_cons_mk (shut_string Try.underlying9 w2) (trodAll_cons_mk (shut_string Try.underlying9 w3) trodAll_mk0)))), rfl, bel.frame _, fun h => by cases h⟩

theorem over : Rows.tableLastRow.holds Try.pinned (OpenSpec.ofChange Rows.tableLastSpec) :=
  OpenClaim.holds_of_wide 8 Try.f8 rfl rfl rfl rfl rfl rfl rfl ⟨rfl, rfl, rfl, rfl, rfl⟩ rfl rfl rfl rfl rfl (by kernel_rfl) Try.func8 (by kernel_rfl)
    (of_decide_eq_true (by kernel_rfl)) (by unfold Func.isWrapper; first | (rw [if_pos (by decide +kernel)]; kernel_rfl) | (rw [if_neg (by decide +kernel)]; exact ⟨rfl, rfl⟩))
    (fun os started H enc _ => lifted os started H enc)

/-- ████ THE STATEMENT ████ -/
theorem proved : Rows.TableLastSaid := over
#print axioms proved
end Go.Proofs.Ytbkabjnklipmjaa.tableLast

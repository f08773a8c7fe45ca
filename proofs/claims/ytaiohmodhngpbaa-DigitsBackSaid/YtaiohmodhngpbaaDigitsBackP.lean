/- Proves 'DigitsBackSaid': for every input the Go function DigitsBack returns true, and each argument reads afterwards as it read before. Conditions: none beyond the row's own. -/
import Derived.Test.YtaiohmodhngpbaaRows
import Derived.WalkKit
import Derived.ProofKit
import Derived.OpenShut
import Derived.ShutString
import Derived.ChangeOld
import Derived.Below
import Derived.Test.YtaiohmodhngpbaaDigW
namespace Go.Proofs.Ytaiohmodhngpbaa.digitsBack
open Go.ChangeShapes Go.WideShapes Go.ChangeAt Go.RowKit
open Go.ChangeMaps (open_string shut_string)
set_option linter.unusedVariables false

theorem own : ownKnob Try.prog.godebug = none := by kernel_rfl
theorem laidOut : laidOutB Try.prog = true := by kernel_rfl

/-- WHAT THE WALK IS TOLD OF A SLICE OF INTEGERS THAT CAME IN: it is nil; or it leads to a row of 'cap' cells, the numbers 'zs' (the first 'len' are its elements, the rest its spare room), each fitting its kind. -/
def IsRow (k : IntKind) (w : World) (a : Option Addr) (len cap : Nat) (zs : List Int) : Prop :=
  (a = none ∧ len = 0 ∧ cap = 0 ∧ zs = []) ∨
  ∃ x, a = some x ∧ len ≤ cap ∧ cap ≤ maxLen ∧ zs.length = cap ∧ (∀ i, i < zs.length → w.cell? (x.add i) = some (.int k (zs.getD i 0))) ∧ ∀ n ∈ zs, (Lit.int k n).wf = true

/-! ### STEP 1: THE WALK: the Go text returns true, AND WRITES NOTHING THAT WAS THERE: 'Below w.heap.size w w'' (Derived/Below.lean: '.refl', '.alloc', '.drew', '.setCell' at a new block, '.trans'). Open each 'IsRow' by 'rcases' AHEAD of 'go_enter'; part every test ahead of the walk. -/
theorem walk (a0 : Int) (a1 : Int) (a2 : ByteArray) (w : World) (w0 : (Lit.int .i64 a0).wf = true) (w1 : (Lit.int .u64 a1).wf = true) (w2 : a2.size ≤ maxLen) :
    Calls Try.prog 4 #[.int .i64 a0, .int .u64 a1, .string a2] w fun e w' => e = .returned (.bool true) ∧ Below w.heap.size w w' := by
  obtain ⟨n1, n2⟩ := bounds_i64 w0
  obtain ⟨u1, u2⟩ := bounds_u64 w1
  obtain ⟨u, rfl⟩ := Int.eq_ofNat_of_zero_le u1
  have hn := Dig.pa_wi a0 n1 n2
  have hu := Dig.pw_wd u (by omega)
  have Hdp := hid (fun w => d_Print a0 n1 n2 w)
  have Hdd := hid (fun w => d_Word u (by omega) w)
  have h1 : ∀ w, Calls Try.prog 9 #[txt (Dig.wi a0)] w fun e w' => e = .returned (.tuple #[.int .i64 a0, .int .i64 0]) ∧ w = w' := fun w => by
    have hz : (bs (Dig.wi a0)).size ≤ maxLen := by
      rw [bs_size]
      have := Dig.wd_length_le a0.natAbs
      unfold Dig.wi maxLen
      split <;> simp <;> omega
    have := d_Parse (bs (Dig.wi a0)) hz w
    rwa [bs_data, hn] at this
  have h2 : ∀ w, Calls Try.prog 11 #[txt (Dig.wd u)] w fun e w' => e = .returned (.tuple #[.int .u64 (u : Int), .int .i64 0]) ∧ w = w' := fun w => by
    have hz : (bs (Dig.wd u)).size ≤ maxLen := by
      rw [bs_size]
      have := Dig.wd_length_le u
      unfold maxLen
      omega
    have := d_ParseWord (bs (Dig.wd u)) hz w
    rwa [bs_data, hu] at this
  have H1 := hid h1
  have H2 := hid h2
  clear h1 h2 hn hu
  generalize Dig.wi a0 = l at *
  generalize Dig.wd u = m at *
  have Hda := hid (fun w => d_Parse a2 w2 w)
  have Hdw := hid (fun w => d_ParseWord a2 w2 w)
  have k1 : (Dig.pa a2.data.toList).2 = 0 → ∀ w, Calls Try.prog 13 #[.int .i64 (Dig.pa a2.data.toList).1] w fun e w' => e = .returned (.string a2) ∧ Below w.heap.size w w' := fun h w => by
    obtain ⟨e, x, y⟩ := Dig.pa_back _ h
    have := d_Print _ x y w
    rwa [e, txt, of_bs] at this
  have k2 : (Dig.pw a2.data.toList).2 = 0 → ∀ w, Calls Try.prog 15 #[.int .u64 ((Dig.pw a2.data.toList).1 : Int)] w fun e w' => e = .returned (.string a2) ∧ Below w.heap.size w w' := fun h w => by
    obtain ⟨e, x⟩ := Dig.pw_back _ h
    have := d_Word _ x w
    rwa [e, txt, of_bs] at this
  generalize Dig.pa a2.data.toList = p at *
  generalize Dig.pw a2.data.toList = q at *
  obtain ⟨a, c⟩ := p
  obtain ⟨b, d⟩ := q
  simp only [] at k1 k2
  have K1 := hid k1
  have K2 := hid k2
  clear k1 k2
  by_cases hc : c = 0
  · subst hc
    have L1 := hid (K1.out rfl)
    by_cases hd : d = 0
    · subst hd
      have L2 := hid (K2.out rfl)
      clear K1 K2
      go_enter Try.func4, Try.ntmps4
      go_wp2_with fail
      refine (Hdp.out _).mono ?_
      rintro e w' ⟨rfl, b1⟩
      go_wp2_with fail
      refine (H1.out _).mono ?_
      rintro e w' ⟨rfl, rfl⟩
      go_wp2_with fail
      refine (Hdd.out _).mono ?_
      rintro e w' ⟨rfl, b2⟩
      go_wp2_with fail
      refine (H2.out _).mono ?_
      rintro e w' ⟨rfl, rfl⟩
      go_wp2_with fail
      refine (Hda.out _).mono ?_
      rintro e w' ⟨rfl, rfl⟩
      go_wp2_with fail
      refine (L1.out _).mono ?_
      rintro e w' ⟨rfl, b3⟩
      go_wp2_with fail
      refine (Hdw.out _).mono ?_
      rintro e w' ⟨rfl, rfl⟩
      go_wp2_with fail
      refine (L2.out _).mono ?_
      rintro e w' ⟨rfl, b4⟩
      go_wp2_with fail
      refine (heads _).mono ?_
      rintro e w' ⟨rfl, b5⟩
      go_wp2_with fail
      go_ret
      exact ⟨rfl, below5 b1 b2 b3 b4 b5⟩
    · have hd' : ((d : Int) != 0) = true := by rw [bne_iff_ne]; omega
      clear K1 K2
      go_enter Try.func4, Try.ntmps4
      go_wp2_with fail
      refine (Hdp.out _).mono ?_
      rintro e w' ⟨rfl, b1⟩
      go_wp2_with fail
      refine (H1.out _).mono ?_
      rintro e w' ⟨rfl, rfl⟩
      go_wp2_with fail
      refine (Hdd.out _).mono ?_
      rintro e w' ⟨rfl, b2⟩
      go_wp2_with fail
      refine (H2.out _).mono ?_
      rintro e w' ⟨rfl, rfl⟩
      go_wp2_with fail
      refine (Hda.out _).mono ?_
      rintro e w' ⟨rfl, rfl⟩
      go_wp2_with fail
      refine (L1.out _).mono ?_
      rintro e w' ⟨rfl, b3⟩
      go_wp2_with fail
      refine (Hdw.out _).mono ?_
      rintro e w' ⟨rfl, rfl⟩
      go_wp2_with fail
      refine (heads _).mono ?_
      rintro e w' ⟨rfl, b5⟩
      go_wp2_with fail
      go_ret
      exact ⟨rfl, below4 b1 b2 b3 b5⟩
  · have hc' : ((c : Int) == 0) = false := by rw [beq_eq_false_iff_ne]; omega
    by_cases hd : d = 0
    · subst hd
      have L2 := hid (K2.out rfl)
      clear K1 K2
      go_enter Try.func4, Try.ntmps4
      go_wp2_with fail
      refine (Hdp.out _).mono ?_
      rintro e w' ⟨rfl, b1⟩
      go_wp2_with fail
      refine (H1.out _).mono ?_
      rintro e w' ⟨rfl, rfl⟩
      go_wp2_with fail
      refine (Hdd.out _).mono ?_
      rintro e w' ⟨rfl, b2⟩
      go_wp2_with fail
      refine (H2.out _).mono ?_
      rintro e w' ⟨rfl, rfl⟩
      go_wp2_with fail
      refine (Hda.out _).mono ?_
      rintro e w' ⟨rfl, rfl⟩
      go_wp2_with fail
      refine (Hdw.out _).mono ?_
      rintro e w' ⟨rfl, rfl⟩
      go_wp2_with fail
      refine (L2.out _).mono ?_
      rintro e w' ⟨rfl, b4⟩
      go_wp2_with fail
      refine (heads _).mono ?_
      rintro e w' ⟨rfl, b5⟩
      go_wp2_with fail
      go_ret
      exact ⟨rfl, below4 b1 b2 b4 b5⟩
    · have hd' : ((d : Int) != 0) = true := by rw [bne_iff_ne]; omega
      clear K1 K2
      go_enter Try.func4, Try.ntmps4
      go_wp2_with fail
      refine (Hdp.out _).mono ?_
      rintro e w' ⟨rfl, b1⟩
      go_wp2_with fail
      refine (H1.out _).mono ?_
      rintro e w' ⟨rfl, rfl⟩
      go_wp2_with fail
      refine (Hdd.out _).mono ?_
      rintro e w' ⟨rfl, b2⟩
      go_wp2_with fail
      refine (H2.out _).mono ?_
      rintro e w' ⟨rfl, rfl⟩
      go_wp2_with fail
      refine (Hda.out _).mono ?_
      rintro e w' ⟨rfl, rfl⟩
      go_wp2_with fail
      refine (Hdw.out _).mono ?_
      rintro e w' ⟨rfl, rfl⟩
      go_wp2_with fail
      refine (heads _).mono ?_
      rintro e w' ⟨rfl, b5⟩
      go_wp2_with fail
      go_ret
      exact ⟨rfl, below3 b1 b2 b5⟩

/-! ### THE ROW's STEP: WRITTEN OUT: LEAVE IT -/
set_option maxRecDepth 100000 in
theorem lifted (os : Os) (started : os.Started) (H : Type) (enc : TypeId × Value → H) :
    ReturnsInHanded {} Try.checked os 4 .any (Rows.digitsBackSpec.pre6 enc Try.prog Try.f4 Rows.digitsBackRow.domain false) (Rows.digitsBackSpec.post enc Try.prog Try.f4 false true false false) := by
  refine returnsInHanded_of_change (C := Try.checked) own started (by kernel_rfl) Try.func4
    (ChangeSpec.witness6 (enc := enc) (C := Try.checked) false ⟨#[], #[.int .i64 0, .int .u64 0, .string ByteArray.empty], []⟩ 8 (by kernel_rfl) (by kernel_rfl) (by kernel_rfl) (by kernel_rfl)) ?_
  intro W base args ds gs before hval0 hW hcnd _
  have hval : ∀ (j : Nat) t v, Try.f4.params[j]? = some t → args[j]? = some v → Value.okWide Try.prog W .any base t v := hval0
  have hW' := hW
  obtain ⟨p, q, hA0, hV, rfl, hfz, hnd⟩ := hW
  have hA : DataW.TrodAll enc Try.prog W 0 (fun _ => true) true Try.f4.params.toList args.toList ds p := hA0
  rw [Try.params4] at hA hval
  obtain ⟨v0, vs0, d0, ds0, p0, q0, hargs, rfl, rfl, h0, r0⟩ := trodAll_cons hA
  obtain ⟨v1, vs1, d1, ds1, p1, q1, rfl, rfl, rfl, h1, r1⟩ := trodAll_cons r0
  obtain ⟨v2, vs2, d2, ds2, p2, q2, rfl, rfl, rfl, h2, r2⟩ := trodAll_cons r1
  obtain ⟨rfl, rfl, rfl⟩ := trodAll_nil r2
  obtain rfl : args = #[v0, v1, v2] := by cases args; simp_all
  obtain ⟨rfl, rfl⟩ := trodVars_none hV
  obtain ⟨a0, rfl, rfl, rfl, w0⟩ := open_int Try.underlying3 (hval 0 3 v0 rfl rfl) h0
  obtain ⟨a1, rfl, rfl, rfl, w1⟩ := open_int Try.underlying22 (hval 1 22 v1 rfl rfl) h1
  obtain ⟨a2, rfl, rfl, rfl, w2⟩ := open_string Try.underlying9 (hval 2 9 v2 rfl rfl) h2
  clear hA0 hval0
  refine (walk a0 a1 a2 W w0 w1 w2).mono fun e W' ⟨he, bel⟩ => ?_
  subst he
  exact ⟨_, rfl, _, _, _, [], _, [], hW', trodAll_mk1 (shut_bool Try.underlying4 _), (trodAll_cons_mk (shut_int Try.underlying3 w0) (trodAll_cons_mk (shut_int Try.underlying22 w1) (trodAll_cons_mk (shut_string Try.underlying9 w2) trodAll_mk0))), rfl, bel.frame _, fun h => by cases h⟩

theorem over : Rows.digitsBackRow.holds Try.pinned (OpenSpec.ofChange Rows.digitsBackSpec) :=
  OpenClaim.holds_of_wide 4 Try.f4 rfl rfl rfl rfl rfl rfl rfl ⟨rfl, rfl, rfl, rfl, rfl⟩ rfl rfl rfl rfl rfl (by kernel_rfl) Try.func4 (by kernel_rfl)
    (of_decide_eq_true (by kernel_rfl)) (by unfold Func.isWrapper; first | (rw [if_pos (by decide +kernel)]; kernel_rfl) | (rw [if_neg (by decide +kernel)]; exact ⟨rfl, rfl⟩))
    (fun os started H enc _ => lifted os started H enc)

/-- ████ THE STATEMENT ████ -/
theorem proved : Rows.DigitsBackSaid := over
#print axioms proved
end Go.Proofs.Ytaiohmodhngpbaa.digitsBack

/- Proves 'CourseTakesSaid': for every input the Go function CourseTakes returns true, and each argument reads afterwards as it read before. Conditions: none beyond the row's own. -/
import Derived.Test.YtgkplcipplpobaaRows
import Derived.WalkKit
import Derived.ProofKit
import Derived.OpenShut
import Derived.ShutString
import Derived.SliceStrings
import Derived.ChangeOld
import Derived.Below
import Derived.Test.YtgkplcipplpobaaCrtM
namespace Go.Proofs.Ytgkplcipplpobaa.courseTakes
open Go.ChangeShapes Go.WideShapes Go.ChangeAt Go.RowKit
open Go.ChangeMaps (open_string shut_string)
set_option linter.unusedVariables false

theorem own : ownKnob Try.prog.godebug = none := by kernel_rfl
theorem laidOut : laidOutB Try.prog = true := by kernel_rfl

/-- WHAT THE WALK IS TOLD OF A SLICE OF INTEGERS THAT CAME IN: it is nil; or it leads to a row of 'cap' cells, the numbers 'zs' (the first 'len' are its elements, the rest its spare room), each fitting its kind. -/
def IsRow (k : IntKind) (w : World) (a : Option Addr) (len cap : Nat) (zs : List Int) : Prop :=
  (a = none ∧ len = 0 ∧ cap = 0 ∧ zs = []) ∨
  ∃ x, a = some x ∧ len ≤ cap ∧ cap ≤ maxLen ∧ zs.length = cap ∧ (∀ i, i < zs.length → w.cell? (x.add i) = some (.int k (zs.getD i 0))) ∧ ∀ n ∈ zs, (Lit.int k n).wf = true

/-! ### STEP 1: THE WALK: the Go text returns true, AND WRITES NOTHING THAT WAS THERE: 'Below w.heap.size w w'' (Derived/Below.lean: '.refl', '.alloc', '.drew', '.setCell' at a new block, '.trans'). Open each 'IsRow' by 'rcases' AHEAD of 'go_enter'; part every test ahead of the walk. -/
set_option maxRecDepth 20000 in
set_option maxHeartbeats 16000000 in
theorem walk (a0 : CkA) (a1 : CsA) (a2 : Option Addr) (len2 cap2 : Nat) (z2 : List Int) (w : World) (w0 : CkIn w a0) (w1 : CsIn w a1) (w2 : IsRow .i64 w a2 len2 cap2 z2) :
    Calls Try.prog 5 #[ckA a0, csvA a1, .slice a2 len2 cap2] w fun e w' => e = .returned (.bool true) ∧ Below w.heap.size w w' := by
  obtain ⟨l, A0, c0⟩ := a0
  obtain ⟨x, A, c⟩ := a1
  obtain ⟨hw0, hc0, hcm0, _⟩ := w0
  obtain ⟨_, hw, _, hl⟩ := w1
  simp only at hw0 hc0 hcm0 hw hl
  obtain ⟨r, rfl, hr2, hrc, hrcm, _⟩ := open_its w2
  have hlm : l.length ≤ maxLen := Nat.le_trans hc0 hcm0
  have hrm : r.length ≤ maxLen := Nat.le_trans hrc hrcm
  show Calls Try.prog 5 #[.slice A0 l.length c0, csv x A c, .slice a2 r.length cap2] w (Did (.bool true) w)
  have HF := hid (fun X h => l_lightC x A c hl X h)
  have HH := hid (fun X => heads14 X)
  have HS := hid (fun X h h2 h3 => p_TakesC A0 c0 l hlm x A c hl a2 cap2 r hrm X h h2 h3)
  have HR := hid (fun X h h2 => r_Loads A0 c0 l x A c hl X h h2)
  have HI := hid (fun A1 c1 (q : List Int) hm X (h : Its X X.heap.size A1 q) (h2 : Its X X.heap.size a2 r) => r_Ints A1 a2 q.length r.length c1 cap2 q r rfl rfl X _ _ h h2 hm)
  have Hok := hid (loads_ok l hl)
  have Heq := hid (show takesC l x r = (loadsC l x).any (fun q => decide (q = r)) by
    rw [Bool.eq_iff_iff, takes_in, List.any_eq_true]
    constructor
    · intro h; exact ⟨r, h, decide_eq_true rfl⟩
    · rintro ⟨q, hq, e⟩; rw [← of_decide_eq_true e]; exact hq)
  have H0 := hid hw0
  have H1 := hid hw
  have H2 := hid hr2
  clear hw hw0 hl hc0 hcm0 hr2 w2 hrc hrcm
  unfold maxLen at hlm hrm
  obtain ⟨P, W, hP, hW, K1, z0⟩ := (Mem.nil w).one (csc x A c) 24
  clear z0
  obtain ⟨e0, e1⟩ := K1.out.cs (B := P) (x := x) (A := A) (c := c) (t := 24) (by simp)
  generalize takesC l x r = tk at *
  generalize loadsC l x = ld at *
  generalize lightC x = f1 at *
  go_enter Try.func5, Try.ntmps5
  go_wp2_with fail
  refine (HF.out _ (H1.out.next K1.out.2)).mono ?_
  rintro e Y1 ⟨rfl, b1⟩
  have K2 := hid (K1.out.next b1)
  clear e0 e1 b1 K1
  cases f1 with
  | false =>
    go_wp2_with fail
    refine (HH.out _).mono ?_
    rintro e Y2 ⟨rfl, bz⟩
    go_wp2_with fail
    go_ret
    exact Did.mk rfl (K2.out.next bz).2
  | true =>
    by_cases m40 : (40 : Int) < (l.length : Int)
    · go_wp2_with fail
      refine (HH.out _).mono ?_
      rintro e Y2 ⟨rfl, bz⟩
      go_wp2_with fail
      go_ret
      exact Did.mk rfl (K2.out.next bz).2
    by_cases m20 : (20 : Int) < (r.length : Int)
    · go_wp2_with fail
      refine (HH.out _).mono ?_
      rintro e Y2 ⟨rfl, bz⟩
      go_wp2_with fail
      go_ret
      exact Did.mk rfl (K2.out.next bz).2
    obtain ⟨e0, e1⟩ := K2.out.cs (B := P) (x := x) (A := A) (c := c) (t := 24) (by simp)
    go_wp2_with fail
    refine (HR.out _ ((H0.out.below K2.out.2 (Nat.le_refl _)).more K2.out.2.size) (H1.out.next K2.out.2)).mono ?_
    rintro e Y2 ⟨A1, c1, rfl, hrr, _, bz, _⟩
    have K3 := hid (K2.out.next bz)
    have HRR := hid hrr
    have hldm := Hok.out.1
    unfold maxLen at hldm
    have Hany := hid (show (ld.take ld.length).any (fun q => decide (q = r)) = tk by rw [List.take_length]; exact Heq.out.symm)
    have Hz := hid (show (ld.take 0).any (fun q => decide (q = r)) = false by simp)
    have Hnx := hid (fun k q (hq : ld[k]? = some q) => show (ld.take (k + 1)).any (fun q => decide (q = r)) = ((ld.take k).any (fun q => decide (q = r)) || decide (q = r)) by rw [List.take_add_one, hq, List.any_append]; simp)
    obtain ⟨an, han⟩ : ∃ an : Nat → Bool, (fun k => (ld.take k).any (fun q => decide (q = r))) = an := ⟨_, rfl⟩
    have Han := hid (fun k => show (ld.take k).any (fun q => decide (q = r)) = an k from congrFun han k)
    have Hz1 := hid ((Han.out 0).symm.trans Hz.out)
    have Hany1 := hid ((Han.out ld.length).symm.trans Hany.out)
    have Hnx1 := hid (fun k q (hq : ld[k]? = some q) => show an (k + 1) = (an k || decide (q = r)) by rw [← Han.out, ← Han.out]; exact Hnx.out k q hq)
    clear e0 e1 bz hrr K2 HF HR han Han Hz Hany Hnx Heq
    go_wp2_with fail
    go_loopw [8, 9] (fun bv i wr => ∃ (k : Nat), i = .int .i64 k ∧ bv = .bool (an k) ∧ k ≤ ld.length ∧ Hid (Mem w wr [(P, csc x A c, 24)]) ∧ Hid (RRow wr A1 ld)) (fun _ i _ => ld.length - (intOf i).toNat)
    case atStart => exact ⟨0, rfl, by rw [Hz1.out], Nat.zero_le _, K3, HRR⟩
    case round =>
      clear K3 HRR
      obtain ⟨k, rfl, rfl, hk, K, HRR⟩ := hrel
      by_cases hlt : k < ld.length
      · obtain ⟨ad, Ak, ck, q, hA1, hadb, hq, hql, hcq, hrq, hckq⟩ := HRR.out.get hlt
        have b1 : (0 : Int) ≤ (k : Int) := by omega
        have b2 : (k : Int) < ld.length := by omega
        have Hn1 := hid (Hnx1.out k q hq.out)
        obtain ⟨ak, hak⟩ : ∃ ak, an k = ak := ⟨_, rfl⟩
        rw [hak] at Hn1 ⊢
        have HI1 := hid (HI.out Ak ck q (Hok.out.2 q hql).1 wr hrq.its ((H2.out.below K.out.2 (Nat.le_refl _)).more K.out.2.size))
        rw [hA1]
        clear hak hrq hckq Hnx1 Hany1 Hz1
        cases ak with
        | true =>
          rw [Bool.true_or] at Hn1
          go_wp2_with fail
          exact ⟨⟨k + 1, by go_num, by rw [Hn1.out], by omega, K, by rw [← hA1]; exact HRR⟩, by simp [intOf]; omega⟩
        | false =>
          rw [Bool.false_or] at Hn1
          go_wp2_with fail
          refine (HI1.out).mono ?_
          rintro e Y3 ⟨rfl, bz⟩
          have K4 := hid (K.out.next bz)
          have HR4 := hid (HRR.out.next bz)
          clear bz K HRR hcq HI1
          go_wp2_with fail
          exact ⟨⟨k + 1, by go_num, by rw [Hn1.out], by omega, K4, by rw [← hA1]; exact HR4⟩, by simp [intOf]; omega⟩
      · obtain rfl : k = ld.length := by omega
        have b2 : ¬ (ld.length : Int) < ld.length := by omega
        obtain ⟨e0, e1⟩ := K.out.cs (B := P) (x := x) (A := A) (c := c) (t := 24) (by simp)
        have Ha := hid Hany1.out
        obtain ⟨al, hal⟩ : ∃ al, an ld.length = al := ⟨_, rfl⟩
        rw [hal] at Ha ⊢
        have hta := Ha.out
        subst hta
        clear hal Hnx1 Hany1 Hz1 Ha
        go_wp2_with fail
        refine (HS.out _ ((H0.out.below K.out.2 (Nat.le_refl _)).more K.out.2.size) (H1.out.next K.out.2) ((H2.out.below K.out.2 (Nat.le_refl _)).more K.out.2.size)).mono ?_
        rintro e Y3 ⟨rfl, bz⟩
        have K4 := hid (K.out.next bz)
        clear e0 e1 bz K HRR
        go_wp2_with fail
        refine (HH.out _).mono ?_
        rintro e Y4 ⟨rfl, bz⟩
        have K5 := hid (K4.out.next bz)
        clear bz K4
        go_wp2_with fail
        go_ret
        exact Did.mk (by simp) K5.out.2

/-! ### THE ROW's STEP: WRITTEN OUT: LEAVE IT -/
set_option maxRecDepth 100000 in
theorem lifted (os : Os) (started : os.Started) (H : Type) (enc : TypeId × Value → H) :
    ReturnsInHanded {} Try.checked os 5 .any (Rows.courseTakesSpec.pre6 enc Try.prog Try.f5 Rows.courseTakesRow.domain false) (Rows.courseTakesSpec.post enc Try.prog Try.f5 false true false false) := by
  refine returnsInHanded_of_change (C := Try.checked) own started (by kernel_rfl) Try.func5
    (ChangeSpec.witness6 (enc := enc) (C := Try.checked) false ⟨#[], #[.slice none 0 0, .agg #[.string ⟨#[]⟩, .slice none 0 0], .slice none 0 0], []⟩ 8 (by kernel_rfl) (by kernel_rfl) (by kernel_rfl) (by kernel_rfl)) ?_
  intro W base args ds gs before hval0 hW hcnd _
  have hval : ∀ (j : Nat) t v, Try.f5.params[j]? = some t → args[j]? = some v → Value.okWide Try.prog W .any base t v := hval0
  have hW' := hW
  obtain ⟨p, q, hA0, hV, rfl, hfz, hnd⟩ := hW
  have hA : DataW.TrodAll enc Try.prog W 0 (fun _ => true) true Try.f5.params.toList args.toList ds p := hA0
  rw [Try.params5] at hA hval
  obtain ⟨v0, vs0, d0, ds0, p0, q0, hargs, rfl, rfl, h0, r0⟩ := trodAll_cons hA
  obtain ⟨v1, vs1, d1, ds1, p1, q1, rfl, rfl, rfl, h1, r1⟩ := trodAll_cons r0
  obtain ⟨v2, vs2, d2, ds2, p2, q2, rfl, rfl, rfl, h2, r2⟩ := trodAll_cons r1
  obtain ⟨rfl, rfl, rfl⟩ := trodAll_nil r2
  obtain rfl : args = #[v0, v1, v2] := by cases args; simp_all
  obtain ⟨rfl, rfl⟩ := trodVars_none hV
  have k0 := h0
  have lt0 : ∀ x ∈ p0, x.block < W.heap.size := by obtain ⟨m, hm⟩ := k0; exact DataW.trod_lt m _ _ _ hm
  obtain ⟨a0, rfl, w0⟩ := open_ckA (hval 0 32 v0 rfl rfl) h0
  have k1 := h1
  have lt1 : ∀ x ∈ p1, x.block < W.heap.size := by obtain ⟨m, hm⟩ := k1; exact DataW.trod_lt m _ _ _ hm
  obtain ⟨a1, rfl, w1⟩ := open_courseA (hval 1 24 v1 rfl rfl) h1
  obtain ⟨a2, len2, cap2, rfl⟩ := okWide_slice Try.underlying29 (hval 2 29 v2 rfl rfl)
  have k2 := h2
  have lt2 : ∀ x ∈ p2, x.block < W.heap.size := by obtain ⟨m, hm⟩ := k2; exact DataW.trod_lt m _ _ _ hm
  obtain ⟨z2, w2⟩ : ∃ zs, IsRow .i64 W a2 len2 cap2 zs := by
    obtain ⟨fuel, hf⟩ := h2
    rcases open_ints Try.underlying29 Try.underlying3 (by kernel_rfl) hf with ⟨hcs, _⟩ | ⟨x, l, c, zs, hcs, _, hl, hm, hz, _, hcell, hwz⟩
    · simp [Value.cells] at hcs
      obtain ⟨rfl, rfl, rfl⟩ := hcs
      exact ⟨[], .inl ⟨rfl, rfl, rfl, rfl⟩⟩
    · simp [Value.cells] at hcs
      obtain ⟨rfl, rfl, rfl⟩ := hcs
      exact ⟨zs, .inr ⟨_, rfl, hl, hm, by simpa using hz, hcell, hwz⟩⟩
  clear hA0 hval0
  refine (walk a0 a1 a2 len2 cap2 z2 W w0 w1 w2).mono fun e W' ⟨he, bel⟩ => ?_
  subst he
  exact ⟨_, rfl, _, _, _, [], _, [], hW', trodAll_mk1 (shut_bool Try.underlying4 _), (trodAll_cons_mk (Below.trod laidOut (by kernel_rfl) (of_decide_eq_true (by kernel_rfl)) k0 bel lt0) (trodAll_cons_mk (Below.trod laidOut (by kernel_rfl) (of_decide_eq_true (by kernel_rfl)) k1 bel lt1) (trodAll_cons_mk (Below.trod laidOut (by kernel_rfl) (of_decide_eq_true (by kernel_rfl)) k2 bel lt2) trodAll_mk0))), rfl, bel.frame _, fun h => by cases h⟩

theorem over : Rows.courseTakesRow.holds Try.pinned (OpenSpec.ofChange Rows.courseTakesSpec) :=
  OpenClaim.holds_of_wide 5 Try.f5 rfl rfl rfl rfl rfl rfl rfl ⟨rfl, rfl, rfl, rfl, rfl⟩ rfl rfl rfl rfl rfl (by kernel_rfl) Try.func5 (by kernel_rfl)
    (of_decide_eq_true (by kernel_rfl)) (by unfold Func.isWrapper; first | (rw [if_pos (by decide +kernel)]; kernel_rfl) | (rw [if_neg (by decide +kernel)]; exact ⟨rfl, rfl⟩))
    (fun os started H enc _ => lifted os started H enc)

/-- ████ THE STATEMENT ████ -/
theorem proved : Rows.CourseTakesSaid := over
#print axioms proved
end Go.Proofs.Ytgkplcipplpobaa.courseTakes

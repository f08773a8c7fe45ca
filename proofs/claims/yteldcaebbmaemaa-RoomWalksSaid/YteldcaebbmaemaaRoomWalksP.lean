/- Proves 'RoomWalksSaid': for every input the Go function RoomWalks returns true, and each argument reads afterwards as it read before. Conditions: none beyond the row's own. -/
import Derived.Test.YteldcaebbmaemaaRows
import Derived.WalkKit
import Derived.ProofKit
import Derived.OpenShut
import Derived.ShutString
import Derived.SliceStrings
import Derived.ChangeOld
import Derived.Below
import Derived.Test.YteldcaebbmaemaaRomZ
namespace Go.Proofs.Yteldcaebbmaemaa.roomWalks
open Go.ChangeShapes Go.WideShapes Go.ChangeAt Go.RowKit
open Go.ChangeMaps (open_string shut_string)
set_option linter.unusedVariables false

theorem own : ownKnob Try.prog.godebug = none := by kernel_rfl
theorem laidOut : laidOutB Try.prog = true := by kernel_rfl

/-- WHAT THE WALK IS TOLD OF A SLICE OF INTEGERS THAT CAME IN: it is nil; or it leads to a row of 'cap' cells, the numbers 'zs' (the first 'len' are its elements, the rest its spare room), each fitting its kind. -/
def IsRow (k : IntKind) (w : World) (a : Option Addr) (len cap : Nat) (zs : List Int) : Prop :=
  (a = none ∧ len = 0 ∧ cap = 0 ∧ zs = []) ∨
  ∃ x, a = some x ∧ len ≤ cap ∧ cap ≤ maxLen ∧ zs.length = cap ∧ (∀ i, i < zs.length → w.cell? (x.add i) = some (.int k (zs.getD i 0))) ∧ ∀ n ∈ zs, (Lit.int k n).wf = true

/-! ### STEP 1: THE WALK: the Go text returns true, AND WRITES NOTHING THAT WAS THERE: 'Below w.heap.size w w'' (Derived/Below.lean: '.refl', '.alloc', '.drew', '.setCell' at a new block, '.trans'). Open each 'IsRow' by 'rcases' AHEAD of 'go_enter'; part every test ahead of the walk. -/
set_option maxRecDepth 20000 in
set_option maxHeartbeats 16000000 in
theorem walk (a0 : Int) (a1 : LsA) (a2 : Int) (a3 : Int) (w : World) (w0 : (Lit.int .i64 a0).wf = true) (w1 : LsIn w a1) (w2 : (Lit.int .i64 a2).wf = true) (w3 : (Lit.int .i64 a3).wf = true) :
    Calls Try.prog 4 #[.int .i64 a0, lsA a1, .int .i64 a2, .int .i64 a3] w fun e w' => e = .returned (.bool true) ∧ Below w.heap.size w w' := by
  obtain ⟨ls, A, c⟩ := a1
  obtain ⟨h2, hlc, hcm, hrl0⟩ := w1
  simp only at h2 hlc hcm hrl0
  show Calls Try.prog 4 #[.int .i64 a0, .slice A ls.length c, .int .i64 a2, .int .i64 a3] w (Did (.bool true) w)
  have hm : ls.length ≤ maxLen := Nat.le_trans hlc hcm
  have hrl : ∀ l ∈ ls, l.length ≤ maxLen := fun l hl => (hrl0 l hl).1
  have H := hid h2
  have HH := hid (fun X => hd_ok X)
  have HP1 := hid (fun X h => p_RightWalk A c ls hm a0 X h)
  have HP2 := hid (fun X h => r_RightWalk A c ls hm hrl a0 X h)
  have HP3 := hid (fun X h => p_Walk A c ls hm hrl a2 a3 X h)
  have HP4 := hid (fun X h => r_Walk A c ls a2 a3 X h)
  clear w0 w2 w3 hrl0 hcm hlc h2 hrl
  unfold maxLen at hm
  generalize rwOk a0 ls = q at *
  generalize wkAt ls a2 a3 = z at *
  by_cases h30 : (30 : Int) < (ls.length : Int)
  · go_enter Try.func4, Try.ntmps4
    go_wp2_with fail
    refine (HH.out _).mono ?_
    rintro e Y2 ⟨rfl, b2⟩
    go_wp2_with fail
    go_ret
    exact Did.mk rfl b2
  · go_enter Try.func4, Try.ntmps4
    go_wp2_with fail
    go_loopw [9] (fun iv wr => ∃ k : Nat, iv = .int .i64 k ∧ k ≤ ls.length ∧ w = wr) (fun iv _ => ls.length - (intOf iv).toNat)
    case atStart => exact ⟨0, rfl, Nat.zero_le _, rfl⟩
    case round =>
      obtain ⟨k, rfl, hk, rfl⟩ := hrel
      by_cases hlt : k < ls.length
      · obtain ⟨ad, r, Ak, ck, rfl, had, hr, hc, hI, hck⟩ := rows2_ad H.out hlt
        have b1 : (0 : Int) ≤ (k : Int) := by omega
        have b2 : (k : Int) < ls.length := by omega
        clear hI hr hck
        by_cases hr30 : (30 : Int) < (r.length : Int)
        · go_wp2_with fail
          refine (HH.out _).mono ?_
          rintro e Y2 ⟨rfl, b2⟩
          go_wp2_with fail
          go_ret
          exact Did.mk rfl b2
        · go_wp2_with fail
          exact ⟨⟨k + 1, by go_num, by omega, trivial⟩, by simp [intOf]; omega⟩
      · have b2 : ¬ (k : Int) < ls.length := by omega
        go_wp2_with fail
        refine (HP1.out w H.out).mono ?_
        rintro e Y1 ⟨rfl, b1⟩
        have t1 := hid b1
        clear b1
        go_wp2_with fail
        refine (HP2.out _ ((H.out.below t1.out (Nat.le_refl _)).more t1.out.size)).mono ?_
        rintro e Y2 ⟨rfl, b1⟩
        have t2 := hid (t1.out.trans (b1.mono t1.out.size))
        have hq : (q == q) = true := by cases q <;> rfl
        clear b1 t1
        go_wp2_with fail
        refine (HP3.out _ ((H.out.below t2.out (Nat.le_refl _)).more t2.out.size)).mono ?_
        rintro e Y3 ⟨rfl, b1⟩
        have t3 := hid (t2.out.trans (b1.mono t2.out.size))
        clear b1 t2
        go_wp2_with fail
        refine (HP4.out _ ((H.out.below t3.out (Nat.le_refl _)).more t3.out.size)).mono ?_
        rintro e Y4 ⟨rfl, b1⟩
        have t4 := hid (t3.out.trans (b1.mono t3.out.size))
        clear b1 t3
        go_wp2_with fail
        refine (HH.out _).mono ?_
        rintro e Y5 ⟨rfl, b1⟩
        go_wp2_with fail
        go_ret
        exact Did.mk rfl (t4.out.trans (b1.mono t4.out.size))

/-! ### THE ROW's STEP: WRITTEN OUT: LEAVE IT -/
set_option maxRecDepth 100000 in
theorem lifted (os : Os) (started : os.Started) (H : Type) (enc : TypeId × Value → H) :
    ReturnsInHanded {} Try.checked os 4 .any (Rows.roomWalksSpec.pre6 enc Try.prog Try.f4 Rows.roomWalksRow.domain false) (Rows.roomWalksSpec.post enc Try.prog Try.f4 false true false false) := by
  refine returnsInHanded_of_change (C := Try.checked) own started (by kernel_rfl) Try.func4
    (ChangeSpec.witness6 (enc := enc) (C := Try.checked) false ⟨#[], #[.int .i64 0, .slice none 0 0, .int .i64 0, .int .i64 0], []⟩ 8 (by kernel_rfl) (by kernel_rfl) (by kernel_rfl) (by kernel_rfl)) ?_
  intro W base args ds gs before hval0 hW hcnd _
  have hval : ∀ (j : Nat) t v, Try.f4.params[j]? = some t → args[j]? = some v → Value.okWide Try.prog W .any base t v := hval0
  have hW' := hW
  obtain ⟨p, q, hA0, hV, rfl, hfz, hnd⟩ := hW
  have hA : DataW.TrodAll enc Try.prog W 0 (fun _ => true) true Try.f4.params.toList args.toList ds p := hA0
  rw [Try.params4] at hA hval
  obtain ⟨v0, vs0, d0, ds0, p0, q0, hargs, rfl, rfl, h0, r0⟩ := trodAll_cons hA
  obtain ⟨v1, vs1, d1, ds1, p1, q1, rfl, rfl, rfl, h1, r1⟩ := trodAll_cons r0
  obtain ⟨v2, vs2, d2, ds2, p2, q2, rfl, rfl, rfl, h2, r2⟩ := trodAll_cons r1
  obtain ⟨v3, vs3, d3, ds3, p3, q3, rfl, rfl, rfl, h3, r3⟩ := trodAll_cons r2
  obtain ⟨rfl, rfl, rfl⟩ := trodAll_nil r3
  obtain rfl : args = #[v0, v1, v2, v3] := by cases args; simp_all
  obtain ⟨rfl, rfl⟩ := trodVars_none hV
  obtain ⟨a0, rfl, rfl, rfl, w0⟩ := open_int Try.underlying3 (hval 0 3 v0 rfl rfl) h0
  have k1 := h1
  have lt1 : ∀ x ∈ p1, x.block < W.heap.size := by obtain ⟨m, hm⟩ := k1; exact DataW.trod_lt m _ _ _ hm
  obtain ⟨a1, rfl, w1⟩ := open_lsA (hval 1 43 v1 rfl rfl) h1
  obtain ⟨a2, rfl, rfl, rfl, w2⟩ := open_int Try.underlying3 (hval 2 3 v2 rfl rfl) h2
  obtain ⟨a3, rfl, rfl, rfl, w3⟩ := open_int Try.underlying3 (hval 3 3 v3 rfl rfl) h3
  clear hA0 hval0
  refine (walk a0 a1 a2 a3 W w0 w1 w2 w3).mono fun e W' ⟨he, bel⟩ => ?_
  subst he
  exact ⟨_, rfl, _, _, _, [], _, [], hW', trodAll_mk1 (shut_bool Try.underlying4 _), (trodAll_cons_mk (shut_int Try.underlying3 w0) (trodAll_cons_mk (Below.trod laidOut (by kernel_rfl) (of_decide_eq_true (by kernel_rfl)) k1 bel lt1) (trodAll_cons_mk (shut_int Try.underlying3 w2) (trodAll_cons_mk (shut_int Try.underlying3 w3) trodAll_mk0)))), rfl, bel.frame _, fun h => by cases h⟩

theorem over : Rows.roomWalksRow.holds Try.pinned (OpenSpec.ofChange Rows.roomWalksSpec) :=
  OpenClaim.holds_of_wide 4 Try.f4 rfl rfl rfl rfl rfl rfl rfl ⟨rfl, rfl, rfl, rfl, rfl⟩ rfl rfl rfl rfl rfl (by kernel_rfl) Try.func4 (by kernel_rfl)
    (of_decide_eq_true (by kernel_rfl)) (by unfold Func.isWrapper; first | (rw [if_pos (by decide +kernel)]; kernel_rfl) | (rw [if_neg (by decide +kernel)]; exact ⟨rfl, rfl⟩))
    (fun os started H enc _ => lifted os started H enc)

/-- ████ THE STATEMENT ████ -/
theorem proved : Rows.RoomWalksSaid := over
#print axioms proved
end Go.Proofs.Yteldcaebbmaemaa.roomWalks

/- Proves 'PersonBusySaid': for every input the Go function PersonBusy returns true, and each argument reads afterwards as it read before. Conditions: none beyond the row's own. -/
import Derived.Test.YtodhpdaoghbmcaaRows
import Derived.WalkKit
import Derived.ProofKit
import Derived.OpenShut
import Derived.ShutString
import Derived.SliceStrings
import Derived.ChangeOld
import Derived.Below
import Derived.Test.YtodhpdaoghbmcaaPerH
import Derived.Test.YtodhpdaoghbmcaaPerV
namespace Go.Proofs.Ytodhpdaoghbmcaa.personBusy
open Go.ChangeShapes Go.WideShapes Go.ChangeAt Go.RowKit
open Go.ChangeMaps (open_string shut_string)
set_option linter.unusedVariables false

theorem own : ownKnob Try.prog.godebug = none := by kernel_rfl
theorem laidOut : laidOutB Try.prog = true := by kernel_rfl

/-- WHAT THE WALK IS TOLD OF A SLICE OF INTEGERS THAT CAME IN: it is nil; or it leads to a row of 'cap' cells, the numbers 'zs' (the first 'len' are its elements, the rest its spare room), each fitting its kind. -/
def IsRow (k : IntKind) (w : World) (a : Option Addr) (len cap : Nat) (zs : List Int) : Prop :=
  (a = none ∧ len = 0 ∧ cap = 0 ∧ zs = []) ∨
  ∃ x, a = some x ∧ len ≤ cap ∧ cap ≤ maxLen ∧ zs.length = cap ∧ (∀ i, i < zs.length → w.cell? (x.add i) = some (.int k (zs.getD i 0))) ∧ ∀ n ∈ zs, (Lit.int k n).wf = true

theorem whs_same {w X : World} {l : Obs} (h : Mem w X l) {k : Nat} {x : Whn.Wh} (hm : (k, [.int .u32 (x.w : Int), .int .u8 (x.d : Int), .int .i64 x.s, .int .i64 x.l, .int .u32 (x.w : Int), .int .u8 (x.d : Int), .int .i64 x.s, .int .i64 x.l], 29) ∈ l) : Whs X X.heap.size (some ⟨k, 0, none⟩) [x, x] := fun _ =>
  ⟨_, rfl, (h.at_ hm).lt, fun j u hj => ob_at (h.at_ hm) j u hj⟩

/-! ### STEP 1: THE WALK: the Go text returns true, AND WRITES NOTHING THAT WAS THERE: 'Below w.heap.size w w'' (Derived/Below.lean: '.refl', '.alloc', '.drew', '.setCell' at a new block, '.trans'). Open each 'IsRow' by 'rcases' AHEAD of 'go_enter'; part every test ahead of the walk. -/
set_option maxRecDepth 20000 in
set_option maxHeartbeats 16000000 in
theorem walk (a0 : Whn.Gr) (a1 : Whn.Wh) (w : World) (w0 : Gok a0) (w1 : Wok a1) :
    Calls Try.prog 8 #[gv a0, wv a1] w fun e w' => e = .returned (.bool true) ∧ Below w.heap.size w w' := by
  show Calls Try.prog 8 #[gv a0, wv a1] w (Did (.bool true) w)
  have HB := hid (fun k X h => (p_Busy a0 [a1, a1] (some ⟨k, 0, none⟩) 2 (fun y hy => by
    simp only [List.mem_cons, List.not_mem_nil, or_false, or_self] at hy
    subst hy; exact w1) (by simp) X h).mono fun _ _ => MoRet.it)
  have HR := hid (fun X => r_Right a0 a1 w1 X)
  have HC := hid (fun X => r_Count a1 w1 X)
  have HH := hid (fun X => hd_okP X)
  have Hyes := hid (fun (h : Whn.right a0 a1 = true) => tot_busy h)
  have Hno := hid (fun (h : Whn.right a0 a1 = false) => show tot (Whn.busy a0 [a1, a1]) = 0 from by
    have key : ∀ k, tot (preI (fun D => ((Whn.cnt (Whn.inD a0 [a1, a1] D) a0.s.toNat : Nat) : Int)) k) = 0 := by
      intro k
      induction k with
      | zero => rfl
      | succ k ih => rw [preI_succ, tot_snoc, ih, one_no h]; rfl
    exact key _)
  have hbn := fun i hi => tot_bnd (busy_all a0 [a1, a1]) i hi
  have hlb : (Whn.busy a0 [a1, a1]).length ≤ 140 := by rw [Whn.busy_len]; exact Whn.daysN_le a0
  have Hbn := hid hbn
  have Htk := hid (fun i a (h : (Whn.busy a0 [a1, a1])[i]? = some a) => tot_take h)
  have Hal := hid (fun a (h : a ∈ Whn.busy a0 [a1, a1]) => busy_all a0 [a1, a1] a h)
  have Htt := hid (show tot ((Whn.busy a0 [a1, a1]).take (Whn.busy a0 [a1, a1]).length) = tot (Whn.busy a0 [a1, a1]) by rw [List.take_length])
  generalize Whn.busy a0 [a1, a1] = L at *
  generalize Whn.right a0 a1 = rr at *
  generalize Whn.count a1 = cc at *
  generalize tot L = tl at *
  clear w0 w1 hbn
  obtain ⟨G, W0, hG, hW0, K0, z0⟩ := (Mem.nil w).one (gc a0) 23
  obtain ⟨D, W1, hD, hW1, K1, z1⟩ := K0.out.one (wc a1) 29
  obtain ⟨k, W2, hk, hW2, K2, z2⟩ := K1.out.one [.int .u32 (a1.w : Int), .int .u8 (a1.d : Int), .int .i64 a1.s, .int .i64 a1.l, .int .u32 (a1.w : Int), .int .u8 (a1.d : Int), .int .i64 a1.s, .int .i64 a1.l] 29
  have HB1 := hid (HB.out k W2 (whs_same K2.out (by simp)))
  obtain ⟨g0, g1, g2⟩ := K1.out.gr (B := G) (g := a0) (by simp)
  obtain ⟨c0, c1, c2, c3⟩ := K1.out.wh (B := D) (x := a1) (by simp)
  clear z0 z1 z2 K0 K1 HB
  go_enter Try.func8, Try.ntmps8
  go_wp2_with fail
  refine HB1.out.mono ?_
  rintro e Y1 ⟨A1, cq, rfl, hits, b1⟩
  have K3 := hid ((K2.out.next b1).sub (l' := [(D, wc a1, 29), (G, gc a0, 23)]) (by simp))
  clear g0 g1 g2 c0 c1 c2 c3 b1 K2 HB1
  obtain ⟨g0, g1, g2⟩ := K3.out.gr (B := G) (g := a0) (by simp)
  obtain ⟨c0, c1, c2, c3⟩ := K3.out.wh (B := D) (x := a1) (by simp)
  have Hi := hid hits
  clear hits
  go_wp2_with fail
  go_loopw [6, 7] (fun nv iv wr => ∃ i : Nat, iv = .int .i64 i ∧ i ≤ L.length ∧ nv = .int .i64 (tot (L.take i)) ∧ Y1 = wr) (fun _ iv _ => L.length - (intOf iv).toNat)
  case atStart => exact ⟨0, rfl, Nat.zero_le _, rfl, rfl⟩
  case round =>
    obtain ⟨i, rfl, hi, rfl, rfl⟩ := hrel
    have hb := Hbn.out i hi
    by_cases hil : i < L.length
    · obtain ⟨am, z, rfl, _, hz, hcz⟩ := Its.get Hi.out hil
      have hzb := Hal.out z (List.mem_of_getElem? hz.out)
      have Ht := hid (Htk.out i z hz.out)
      have b3 : (0 : Int) ≤ (i : Int) := by omega
      have b4 : (i : Int) < L.length := by omega
      generalize tot (L.take i) = ti at *
      clear Htt Hbn Htk Hal
      go_wp2_with fail
      exact ⟨⟨i + 1, by go_num, by omega, by rw [Ht.out], trivial⟩, by simp [intOf]; omega⟩
    · obtain rfl : i = L.length := by omega
      rw [Htt.out] at *
      have b4 : ¬ ((L.length : Nat) : Int) < L.length := by omega
      clear Htt Hbn Htk Hal
      go_wp2_with fail
      refine (HR.out _).mono ?_
      rintro e Y2 ⟨rfl, b2⟩
      have K4 := hid (K3.out.next b2)
      clear g0 g1 g2 c0 c1 c2 c3
      obtain ⟨c0, c1, c2, c3⟩ := K4.out.wh (B := D) (x := a1) (by simp)
      cases rr with
      | false =>
        have ht := Hno.out rfl
        subst ht
        go_wp2_with fail
        refine (HH.out _).mono ?_
        rintro e Y3 ⟨rfl, b3⟩
        go_wp2_with fail
        go_ret
        exact Did.mk rfl (K4.out.next b3).2
      | true =>
        have ht := Hyes.out rfl
        subst ht
        go_wp2_with fail
        refine (HC.out _).mono ?_
        rintro e Y3 ⟨rfl, b3⟩
        have K5 := hid (K4.out.next b3)
        go_wp2_with fail
        refine (HH.out _).mono ?_
        rintro e Y4 ⟨rfl, b4⟩
        go_wp2_with fail
        go_ret
        exact Did.mk rfl (K5.out.next b4).2

/-! ### THE ROW's STEP: WRITTEN OUT: LEAVE IT -/
set_option maxRecDepth 100000 in
theorem lifted (os : Os) (started : os.Started) (H : Type) (enc : TypeId × Value → H) :
    ReturnsInHanded {} Try.checked os 8 .any (Rows.personBusySpec.pre6 enc Try.prog Try.f8 Rows.personBusyRow.domain false) (Rows.personBusySpec.post enc Try.prog Try.f8 false true false false) := by
  refine returnsInHanded_of_change (C := Try.checked) own started (by kernel_rfl) Try.func8
    (ChangeSpec.witness6 (enc := enc) (C := Try.checked) false ⟨#[], #[.agg #[.int .i64 0, .int .i64 0, .int .i64 0], .agg #[.int .u32 0, .int .u8 0, .int .i64 0, .int .i64 0]], []⟩ 8 (by kernel_rfl) (by kernel_rfl) (by kernel_rfl) (by kernel_rfl)) ?_
  intro W base args ds gs before hval0 hW hcnd _
  have hval : ∀ (j : Nat) t v, Try.f8.params[j]? = some t → args[j]? = some v → Value.okWide Try.prog W .any base t v := hval0
  have hW' := hW
  obtain ⟨p, q, hA0, hV, rfl, hfz, hnd⟩ := hW
  have hA : DataW.TrodAll enc Try.prog W 0 (fun _ => true) true Try.f8.params.toList args.toList ds p := hA0
  rw [Try.params8] at hA hval
  obtain ⟨v0, vs0, d0, ds0, p0, q0, hargs, rfl, rfl, h0, r0⟩ := trodAll_cons hA
  obtain ⟨v1, vs1, d1, ds1, p1, q1, rfl, rfl, rfl, h1, r1⟩ := trodAll_cons r0
  obtain ⟨rfl, rfl, rfl⟩ := trodAll_nil r1
  obtain rfl : args = #[v0, v1] := by cases args; simp_all
  obtain ⟨rfl, rfl⟩ := trodVars_none hV
  have k0 := h0
  have lt0 : ∀ x ∈ p0, x.block < W.heap.size := by obtain ⟨m, hm⟩ := k0; exact DataW.trod_lt m _ _ _ hm
  obtain ⟨a0, rfl, w0⟩ := open_gr (hval 0 23 v0 rfl rfl) h0
  have k1 := h1
  have lt1 : ∀ x ∈ p1, x.block < W.heap.size := by obtain ⟨m, hm⟩ := k1; exact DataW.trod_lt m _ _ _ hm
  obtain ⟨a1, rfl, w1⟩ := open_wh (hval 1 29 v1 rfl rfl) h1
  clear hA0 hval0
  refine (walk a0 a1 W w0 w1).mono fun e W' ⟨he, bel⟩ => ?_
  subst he
  exact ⟨_, rfl, _, _, _, [], _, [], hW', trodAll_mk1 (shut_bool Try.underlying4 _), (trodAll_cons_mk (Below.trod laidOut (by kernel_rfl) (of_decide_eq_true (by kernel_rfl)) k0 bel lt0) (trodAll_cons_mk (Below.trod laidOut (by kernel_rfl) (of_decide_eq_true (by kernel_rfl)) k1 bel lt1) trodAll_mk0)), rfl, bel.frame _, fun h => by cases h⟩

theorem over : Rows.personBusyRow.holds Try.pinned (OpenSpec.ofChange Rows.personBusySpec) :=
  OpenClaim.holds_of_wide 8 Try.f8 rfl rfl rfl rfl rfl rfl rfl ⟨rfl, rfl, rfl, rfl, rfl⟩ rfl rfl rfl rfl rfl (by kernel_rfl) Try.func8 (by kernel_rfl)
    (of_decide_eq_true (by kernel_rfl)) (by unfold Func.isWrapper; first | (rw [if_pos (by decide +kernel)]; kernel_rfl) | (rw [if_neg (by decide +kernel)]; exact ⟨rfl, rfl⟩))
    (fun os started H enc _ => lifted os started H enc)

/-- ████ THE STATEMENT ████ -/
theorem proved : Rows.PersonBusySaid := over
#print axioms proved
end Go.Proofs.Ytodhpdaoghbmcaa.personBusy

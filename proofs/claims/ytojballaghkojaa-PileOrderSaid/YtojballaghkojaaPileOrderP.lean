/- Proves 'PileOrderSaid': for every input the Go function PileOrder returns true, and each argument reads afterwards as it read before. Conditions: none beyond the row's own. -/
import Derived.Test.YtojballaghkojaaRows
import Derived.WalkKit
import Derived.ProofKit
import Derived.OpenShut
import Derived.ShutString
import Derived.SliceStrings
import Derived.ChangeOld
import Derived.Below
import Derived.Test.YtojballaghkojaaPilX
namespace Go.Proofs.Ytojballaghkojaa.pileOrder
open Go.ChangeShapes Go.WideShapes Go.ChangeAt Go.RowKit
open Go.ChangeMaps (open_string shut_string)
set_option linter.unusedVariables false

theorem own : ownKnob Try.prog.godebug = none := by kernel_rfl
theorem laidOut : laidOutB Try.prog = true := by kernel_rfl

/-- WHAT THE WALK IS TOLD OF A SLICE OF INTEGERS THAT CAME IN: it is nil; or it leads to a row of 'cap' cells, the numbers 'zs' (the first 'len' are its elements, the rest its spare room), each fitting its kind. -/
def IsRow (k : IntKind) (w : World) (a : Option Addr) (len cap : Nat) (zs : List Int) : Prop :=
  (a = none ∧ len = 0 ∧ cap = 0 ∧ zs = []) ∨
  ∃ x, a = some x ∧ len ≤ cap ∧ cap ≤ maxLen ∧ zs.length = cap ∧ (∀ i, i < zs.length → w.cell? (x.add i) = some (.int k (zs.getD i 0))) ∧ ∀ n ∈ zs, (Lit.int k n).wf = true

/-! ### STEP 1: THE WALK: the Go text returns true, AND WRITES NOTHING THAT WAS THERE: 'Below w.heap.size w w'' (Derived/Below.lean: '.refl', '.alloc', '.drew', '.setCell' at a new block, '.trans'). Open each 'IsRow' by 'rcases' AHEAD of 'go_enter'; part every test ahead of the walk. -/
set_option maxRecDepth 20000 in
set_option maxHeartbeats 16000000 in
theorem walk (a0 : Option Addr) (len0 cap0 : Nat) (z0 : List Opi) (w : World) (w0 : IsRowQ w a0 len0 cap0 z0) :
    Calls Try.prog 7 #[.slice a0 len0 cap0] w fun e w' => e = .returned (.bool true) ∧ Below w.heap.size w w' := by
  obtain ⟨hl, hlc, hcm, hops, hwf⟩ := w0
  subst hl
  by_cases hbig : (100 : Int) < z0.length
  · clear hops hwf
    go_enter Try.func7, Try.ntmps7
    go_wp2_with fail
    refine (heads _).mono ?_
    rintro e w' ⟨rfl, b⟩
    go_wp2_with fail
    go_ret
    exact ⟨rfl, b⟩
  have hbig' : (z0.length : Int) ≤ 100 := by omega
  have H := hid hops
  have Hwf := hid hwf
  clear hops hbig hwf
  go_enter Try.func7, Try.ntmps7
  go_wp2_with fail
  refine (o_New w).mono ?_
  rintro e w1 ⟨p, rfl, t1, b1⟩
  go_wp2_with fail
  refine (o_New w1).mono ?_
  rintro e w2 ⟨q, rfl, t2, b2⟩
  have X1 := hid (Apl.mk t1 b1.size b2 t2)
  have b12 := below2 b1 b2
  clear t1 t2 b1 b2
  go_wp2_with fail
  go_loopw [5] (fun iv wr => ∃ (k : Nat) (s : List Pil.It), iv = .int .i64 k ∧ k ≤ z0.length ∧ Hid (s = pushesM (z0.take k)) ∧ Hid (Apl w.heap.size wr p q s []) ∧ Below w.heap.size w wr) (fun iv _ => z0.length - (intOf iv).toNat)
  case atStart => exact ⟨0, [], rfl, Nat.zero_le _, hid rfl, X1, b12⟩
  case round =>
    clear X1 b12
    obtain ⟨k, s, rfl, hk, hs, X, hb⟩ := hrel
    have hsf := pushesM_facts z0 k
    rw [← hs.out] at hsf
    obtain ⟨hss, hsl⟩ := hsf
    have Hss := hid hss
    clear hss
    by_cases hlt : k < z0.length
    · obtain ⟨b0, o0, kd, key, rank, rfl, hbB, Hx, hc0, hc1, hc2⟩ := Opq.get (H.out.below hb (Nat.le_refl _)) hlt
      have i1 : (0 : Int) ≤ (k : Int) := by omega
      have i2 : (k : Int) < (z0.length : Int) := by omega
      have Hnext := hid ((pushesM_next z0 k _ Hx.out).trans (by rw [← hs.out]))
      have Hw := hid (Hwf.out _ (List.mem_of_getElem? Hx.out))
      have C1 := hid (ap_Push (X.out.below (Below.refl wr.heap.size wr).drew) hb.size (by omega) key rank Hw.out.2.1 Hw.out.2.2)
      unfold ApDid at C1
      have d1 : wr.drew.cell? ⟨b0, o0 + k * 3 + 1, none⟩ = some (.int .i64 key) := hc1
      have d2 : wr.drew.cell? ⟨b0, o0 + k * 3 + 2, none⟩ = some (.int .i64 rank) := hc2
      have hbw : b0 < w.heap.size := by omega
      have hS2 := And.intro d1 d2
      clear X hc0 hc1 hc2
      go_wp2_with fail
      go_region_held3 (fun X => X.cell? ⟨b0, o0 + k * 3 + 1, none⟩ = some (.int .i64 key) ∧ X.cell? ⟨b0, o0 + k * 3 + 2, none⟩ = some (.int .i64 rank)) (exact hS2) (first | (go_at_call 13; refine (C1.out).mono ?_; rintro e w4 ⟨rfl, X4, b4⟩; have hS2 := And.intro ((b4.cell (p := ⟨b0, o0 + k * 3 + 1, none⟩) hbw).trans d1) ((b4.cell (p := ⟨b0, o0 + k * 3 + 2, none⟩) hbw).trans d2)))
      have hb4 : Below w.heap.size wr w4 := (Below.refl _ wr).drew.trans b4
      go_wp2_with fail
      exact ⟨⟨k + 1, _, by go_num, by omega, hid Hnext.out.symm, hid X4, hb.trans hb4⟩, by simp [intOf]; omega⟩
    · obtain rfl : k = z0.length := by omega
      rw [List.take_length] at hs
      have hsl' : s.length ≤ 100 := by omega
      clear hlt hk hsl
      go_wp2_with fail
      go_loopw [6] (fun iv wx => ∃ (k : Nat) (sq : List Pil.It), iv = .int .i64 ((k : Int) - 1) ∧ k ≤ z0.length ∧ sq.length + k ≤ z0.length ∧ Hid (From2 s z0 k sq) ∧ Hid (Apl w.heap.size wx p q s sq) ∧ Hid (Below w.heap.size w wx)) (fun iv _ => (intOf iv + 1).toNat)
      case atStart => exact ⟨z0.length, [], by go_num, Nat.le_refl _, by simp, hid (From2.start s z0), X, hid hb⟩
      case round =>
        clear X hb
        obtain ⟨k, sq, rfl, hk, hql, HF, X, HB⟩ := hrel
        by_cases h0 : k = 0
        · subst h0
          have hqs := HF.out.all Hss.out X.out.q.srt hs.out
          subst hqs
          clear HF hs H Hwf
          have X3 := X
          have HB3 := HB
          clear X HB
          rw [show ((0 : Nat) : Int) - 1 = -1 from rfl]
          go_wp2_with fail
          go_loopw [9] (fun iv wx => ∃ (j : Nat) (t : List Pil.It), iv = .int .i64 j ∧ j ≤ z0.length + 1 ∧ t.length ≤ 100 ∧ Hid (Apl w.heap.size wx p q t t) ∧ Hid (Below w.heap.size w wx)) (fun iv _ => z0.length + 1 - (intOf iv).toNat)
          case atStart => exact ⟨0, sq, rfl, Nat.zero_le _, hsl', X3, HB3⟩
          case round =>
            clear X3 HB3
            obtain ⟨j, t, rfl, hj, htl, X, HB⟩ := hrel
            by_cases hjl : j ≤ z0.length
            · have i1 : (j : Int) ≤ (z0.length : Int) := by omega
              have P1 := hid (ap_Pop X.out HB.out.size (by omega))
              have htl2 : t.tail.length ≤ 100 := by rw [List.length_tail]; omega
              cases t with
              | nil =>
                rw [show topV [] = .tuple #[.int .i64 0, .int .i64 0, .bool false] from rfl, List.tail_nil] at P1
                clear X
                go_wp2_with fail
                refine (P1.out).mono ?_
                rintro e w4 ⟨rfl, X4, b4⟩
                have HB4 := hid (HB.out.trans b4)
                have P2 := hid (ap_Pop X4.swap HB4.out.size (by simp))
                rw [show topV [] = .tuple #[.int .i64 0, .int .i64 0, .bool false] from rfl, List.tail_nil] at P2
                clear X4 b4 P1 HB
                go_wp2_with fail
                refine (P2.out).mono ?_
                rintro e w5 ⟨rfl, X5, b5⟩
                have HX5 := hid X5.swap
                have HB5 := hid (HB4.out.trans b5)
                clear X5 b5 P2 HB4
                go_wp2_with fail
                exact ⟨⟨j + 1, [], by go_num, by omega, by simp, HX5, HB5⟩, by simp [intOf]; omega⟩
              | cons x r =>
                obtain ⟨xk, xr⟩ := x
                rw [show topV ((xk, xr) :: r) = .tuple #[.int .i64 xk, .int .i64 xr, .bool true] from rfl, List.tail_cons] at P1
                rw [List.tail_cons] at htl2
                clear X
                go_wp2_with fail
                refine (P1.out).mono ?_
                rintro e w4 ⟨rfl, X4, b4⟩
                have HB4 := hid (HB.out.trans b4)
                have P2 := hid (ap_Pop X4.swap HB4.out.size (by omega))
                rw [show topV ((xk, xr) :: r) = .tuple #[.int .i64 xk, .int .i64 xr, .bool true] from rfl, List.tail_cons] at P2
                clear X4 b4 P1 HB
                go_wp2_with fail
                refine (P2.out).mono ?_
                rintro e w5 ⟨rfl, X5, b5⟩
                have HX5 := hid X5.swap
                have HB5 := hid (HB4.out.trans b5)
                clear X5 b5 P2 HB4
                go_wp2_with fail
                exact ⟨⟨j + 1, r, by go_num, by omega, htl2, HX5, HB5⟩, by simp [intOf]; omega⟩
            · obtain rfl : j = z0.length + 1 := by omega
              have i1 : ¬ (((z0.length + 1 : Nat) : Int) ≤ (z0.length : Int)) := by omega
              go_wp2_with fail
              refine (heads _).mono ?_
              rintro e w6 ⟨rfl, b6⟩
              have HB6 := hid (below2 HB.out b6)
              go_wp2_with fail
              go_ret
              exact ⟨rfl, HB6.out⟩
        · obtain ⟨m, rfl⟩ : ∃ m, k = m + 1 := ⟨k - 1, by omega⟩
          have hm1 : ((m + 1 : Nat) : Int) - 1 = (m : Int) := by omega
          rw [hm1]
          have hml : m < z0.length := by omega
          obtain ⟨b0, o0, kd, key, rank, rfl, hbB, Hx, hc0, hc1, hc2⟩ := Opq.get (H.out.below HB.out (Nat.le_refl _)) hml
          have i1 : (0 : Int) ≤ (m : Int) := by omega
          have i2 : (m : Int) < (z0.length : Int) := by omega
          have Hw := hid (Hwf.out _ (List.mem_of_getElem? Hx.out))
          have hin : key ∈ Pil.keys s := by rw [hs.out, pushesM_keys]; exact ⟨_, List.mem_of_getElem? Hx.out, rfl⟩
          obtain ⟨r, hr⟩ : ∃ r, Pil.get s key = some r := Option.isSome_iff_exists.1 (Pil.get_some.2 hin)
          have HF' := hid (HF.out.step Hss.out Hx.out hr)
          have Hr := hid (X.out.p.i64 _ ((Pil.get_iff Hss.out.nd _ _).1 hr)).2
          have R1 := hid (o_Rank X.out.p (by omega) key Hw.out.2.1)
          rw [hr] at R1
          unfold RkRet at R1
          have hbw : b0 < w.heap.size := by omega
          have hwx := HB.out.size
          clear hin hr h0 hm1 hc0 hc2
          go_wp2_with fail
          refine (R1.out).mono ?_
          rintro e w4 ⟨rfl, b4⟩
          have HB4 := hid (below2 HB.out b4)
          have d1 := (b4.cell (p := ⟨b0, o0 + m * 3 + 1, none⟩) (by show b0 < wr.heap.size; omega)).trans hc1
          have C1 := hid (ap_Push (X.out.below b4).swap HB4.out.size (by omega) key r Hw.out.2.1 Hr.out)
          unfold ApDid at C1
          have hql2 := len_push_le sq (key, r)
          clear R1 b4 hc1 X
          go_wp2_with fail
          refine (C1.out).mono ?_
          rintro e w5 ⟨rfl, X5, b5⟩
          have HX5 := hid X5.swap
          have HB5 := hid (HB4.out.trans b5)
          clear X5 b5 C1 HB4 HB
          go_wp2_with fail
          exact ⟨⟨m, _, by go_num, by omega, by omega, HF', HX5, HB5⟩, by simp [intOf]⟩

/-! ### THE ROW's STEP: WRITTEN OUT: LEAVE IT -/
set_option maxRecDepth 100000 in
theorem lifted (os : Os) (started : os.Started) (H : Type) (enc : TypeId × Value → H) :
    ReturnsInHanded {} Try.checked os 7 .any (Rows.pileOrderSpec.pre6 enc Try.prog Try.f7 Rows.pileOrderRow.domain false) (Rows.pileOrderSpec.post enc Try.prog Try.f7 false true false false) := by
  refine returnsInHanded_of_change (C := Try.checked) own started (by kernel_rfl) Try.func7
    (ChangeSpec.witness6 (enc := enc) (C := Try.checked) false ⟨#[], #[.slice none 0 0], []⟩ 8 (by kernel_rfl) (by kernel_rfl) (by kernel_rfl) (by kernel_rfl)) ?_
  intro W base args ds gs before hval0 hW hcnd _
  have hval : ∀ (j : Nat) t v, Try.f7.params[j]? = some t → args[j]? = some v → Value.okWide Try.prog W .any base t v := hval0
  have hW' := hW
  obtain ⟨p, q, hA0, hV, rfl, hfz, hnd⟩ := hW
  have hA : DataW.TrodAll enc Try.prog W 0 (fun _ => true) true Try.f7.params.toList args.toList ds p := hA0
  rw [Try.params7] at hA hval
  obtain ⟨v0, vs0, d0, ds0, p0, q0, hargs, rfl, rfl, h0, r0⟩ := trodAll_cons hA
  obtain ⟨rfl, rfl, rfl⟩ := trodAll_nil r0
  obtain rfl : args = #[v0] := by cases args; simp_all
  obtain ⟨rfl, rfl⟩ := trodVars_none hV
  obtain ⟨a0, len0, cap0, rfl⟩ := okWide_slice Try.underlying22 (hval 0 22 v0 rfl rfl)
  have k0 := h0
  have lt0 : ∀ x ∈ p0, x.block < W.heap.size := by obtain ⟨m, hm⟩ := k0; exact DataW.trod_lt m _ _ _ hm
  obtain ⟨z0, w0⟩ : ∃ zs, IsRowQ W a0 len0 cap0 zs := by
    obtain ⟨fuel, hf⟩ := h0
    exact open_opq Try.underlying22 Try.underlying28 (by kernel_rfl) (by kernel_rfl) Try.underlying3 Try.underlying3 Try.underlying3 hf
  clear hA0 hval0
  refine (walk a0 len0 cap0 z0 W w0).mono fun e W' ⟨he, bel⟩ => ?_
  subst he
  exact ⟨_, rfl, _, _, _, [], _, [], hW', trodAll_mk1 (shut_bool Try.underlying4 _), (trodAll_cons_mk (Below.trod laidOut (by kernel_rfl) (of_decide_eq_true (by kernel_rfl)) k0 bel lt0) trodAll_mk0), rfl, bel.frame _, fun h => by cases h⟩

theorem over : Rows.pileOrderRow.holds Try.pinned (OpenSpec.ofChange Rows.pileOrderSpec) :=
  OpenClaim.holds_of_wide 7 Try.f7 rfl rfl rfl rfl rfl rfl rfl ⟨rfl, rfl, rfl, rfl, rfl⟩ rfl rfl rfl rfl rfl (by kernel_rfl) Try.func7 (by kernel_rfl)
    (of_decide_eq_true (by kernel_rfl)) (by unfold Func.isWrapper; first | (rw [if_pos (by decide +kernel)]; kernel_rfl) | (rw [if_neg (by decide +kernel)]; exact ⟨rfl, rfl⟩))
    (fun os started H enc _ => lifted os started H enc)

/-- ████ THE STATEMENT ████ -/
theorem proved : Rows.PileOrderSaid := over
#print axioms proved
end Go.Proofs.Ytojballaghkojaa.pileOrder

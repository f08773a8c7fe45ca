/- Proves 'PilePopsSaid': for every input the Go function PilePops returns true, and each argument reads afterwards as it read before. Conditions: none beyond the row's own. -/
import Derived.Test.YtojballaghkojaaRows
import Derived.WalkKit
import Derived.ProofKit
import Derived.OpenShut
import Derived.ShutString
import Derived.SliceStrings
import Derived.ChangeOld
import Derived.Below
import Derived.Test.YtojballaghkojaaPilX
namespace Go.Proofs.Ytojballaghkojaa.pilePops
open Go.ChangeShapes Go.WideShapes Go.ChangeAt Go.RowKit
open Go.ChangeMaps (open_string shut_string)
set_option linter.unusedVariables false

theorem own : ownKnob Try.prog.godebug = none := by kernel_rfl
theorem laidOut : laidOutB Try.prog = true := by kernel_rfl

/-- WHAT THE WALK IS TOLD OF A SLICE OF INTEGERS THAT CAME IN: it is nil; or it leads to a row of 'cap' cells, the numbers 'zs' (the first 'len' are its elements, the rest its spare room), each fitting its kind. -/
def IsRow (k : IntKind) (w : World) (a : Option Addr) (len cap : Nat) (zs : List Int) : Prop :=
  (a = none ∧ len = 0 ∧ cap = 0 ∧ zs = []) ∨
  ∃ x, a = some x ∧ len ≤ cap ∧ cap ≤ maxLen ∧ zs.length = cap ∧ (∀ i, i < zs.length → w.cell? (x.add i) = some (.int k (zs.getD i 0))) ∧ ∀ n ∈ zs, (Lit.int k n).wf = true

/-! ### STEP 1: THE WALK: the Go text returns true, AND WRITES NOTHING THAT WAS THERE: 'Below w.heap.size w w'' (Derived/Below.lean: '.refl', '.alloc', '.drew', '.setCell' at a new block, '.trans'). Open each 'IsRow' by 'rcases' AHEAD of 'go_enter'; part every test ahead of the walk. -/
set_option maxRecDepth 20000 in
set_option maxHeartbeats 16000000 in
theorem walk (a0 : Option Addr) (len0 cap0 : Nat) (z0 : List Opi) (w : World) (w0 : IsRowQ w a0 len0 cap0 z0) :
    Calls Try.prog 4 #[.slice a0 len0 cap0] w fun e w' => e = .returned (.bool true) ∧ Below w.heap.size w w' := by
  obtain ⟨hl, hlc, hcm, hops, hwf⟩ := w0
  subst hl
  by_cases hbig : (150 : Int) < z0.length
  · clear hops hwf
    go_enter Try.func4, Try.ntmps4
    go_wp2_with fail
    refine (heads _).mono ?_
    rintro e w' ⟨rfl, b⟩
    go_wp2_with fail
    go_ret
    exact ⟨rfl, b⟩
  have hbig' : (z0.length : Int) ≤ 150 := by omega
  have H := hid hops
  have Hwf := hid hwf
  clear hops hbig hwf
  go_enter Try.func4, Try.ntmps4
  go_wp2_with fail
  refine (o_New w).mono ?_
  rintro e w1 ⟨p, rfl, t1, b1⟩
  have X1 := hid t1
  clear t1
  go_wp2_with fail
  go_loopw [4, 5] (fun nv iv wr => ∃ (k : Nat) (s : List Pil.It), iv = .int .i64 k ∧ k ≤ z0.length ∧ nv = .int .i64 (s.length : Int) ∧ Hid (s = pushesM (z0.take k)) ∧ Hid (PlO w.heap.size wr p s) ∧ Below w.heap.size w wr) (fun _ iv _ => z0.length - (intOf iv).toNat)
  case atStart => exact ⟨0, [], rfl, Nat.zero_le _, rfl, hid rfl, X1, b1⟩
  case round =>
    clear X1 b1
    obtain ⟨k, s, rfl, hk, rfl, hs, X, hb⟩ := hrel
    have hsf := pushesM_facts z0 k
    rw [← hs.out] at hsf
    obtain ⟨hss, hsl⟩ := hsf
    have Hss := hid hss
    clear hss
    by_cases hlt : k < z0.length
    · obtain ⟨b0, o0, kd, key, rank, rfl, hbB, Hx, hc0, hc1, hc2⟩ := Opq.get (H.out.below hb (Nat.le_refl _)) hlt
      have i1 : (0 : Int) ≤ (k : Int) := by omega
      have i2 : (k : Int) < (z0.length : Int) := by omega
      have Hnext := hid ((pushesM_next z0 k _ Hx.out).trans (by rw [← hs.out]))
      have Hw := hid (Hwf.out _ (List.mem_of_getElem? Hx.out))
      have C1 := hid (o_Push (X.out.below (Below.refl wr.heap.size wr).drew) hb.size (by omega) key rank Hw.out.2.1 Hw.out.2.2)
      unfold OwnDid at C1
      have hlen := Pil.len_push s (key, rank)
      rw [get_isSome_keys] at C1
      have d1 : wr.drew.cell? ⟨b0, o0 + k * 3 + 1, none⟩ = some (.int .i64 key) := hc1
      have d2 : wr.drew.cell? ⟨b0, o0 + k * 3 + 2, none⟩ = some (.int .i64 rank) := hc2
      have hbw : b0 < w.heap.size := by omega
      have hS2 := And.intro d1 d2
      clear X hc0 hc1 hc2
      by_cases hin : key ∈ Pil.keys s
      · rw [decide_eq_true hin] at C1
        rw [if_pos hin] at hlen
        obtain ⟨s', Hs'⟩ : ∃ s', Hid (Pil.push s (key, rank) = s') := ⟨_, hid rfl⟩
        rw [Hs'.out] at C1 hlen
        clear hin
        go_wp2_with fail
        go_region_held3 (fun X => X.cell? ⟨b0, o0 + k * 3 + 1, none⟩ = some (.int .i64 key) ∧ X.cell? ⟨b0, o0 + k * 3 + 2, none⟩ = some (.int .i64 rank)) (exact hS2) (first | (go_at_call 13; refine (C1.out).mono ?_; rintro e w4 ⟨rfl, X4, b4⟩; have hS2 := And.intro ((b4.cell (p := ⟨b0, o0 + k * 3 + 1, none⟩) hbw).trans d1) ((b4.cell (p := ⟨b0, o0 + k * 3 + 2, none⟩) hbw).trans d2)))
        have hb4 : Below w.heap.size wr w4 := (Below.refl _ wr).drew.trans b4
        go_wp2_with fail
        exact ⟨⟨k + 1, s', by go_num, by omega, by rw [hlen]; rfl, hid (Hs'.out.symm.trans Hnext.out.symm), hid X4, hb.trans hb4⟩, by simp [intOf]; omega⟩
      · rw [decide_eq_false hin] at C1
        rw [if_neg hin] at hlen
        obtain ⟨s', Hs'⟩ : ∃ s', Hid (Pil.push s (key, rank) = s') := ⟨_, hid rfl⟩
        rw [Hs'.out] at C1 hlen
        clear hin
        go_wp2_with fail
        go_region_held3 (fun X => X.cell? ⟨b0, o0 + k * 3 + 1, none⟩ = some (.int .i64 key) ∧ X.cell? ⟨b0, o0 + k * 3 + 2, none⟩ = some (.int .i64 rank)) (exact hS2) (first | (go_at_call 13; refine (C1.out).mono ?_; rintro e w4 ⟨rfl, X4, b4⟩; have hS2 := And.intro ((b4.cell (p := ⟨b0, o0 + k * 3 + 1, none⟩) hbw).trans d1) ((b4.cell (p := ⟨b0, o0 + k * 3 + 2, none⟩) hbw).trans d2)))
        have hb4 : Below w.heap.size wr w4 := (Below.refl _ wr).drew.trans b4
        go_wp2_with fail
        exact ⟨⟨k + 1, s', by go_num, by omega, by rw [hlen]; go_num, hid (Hs'.out.symm.trans Hnext.out.symm), hid X4, hb.trans hb4⟩, by simp [intOf]; omega⟩
    · obtain rfl : k = z0.length := by omega
      rw [List.take_length] at hs
      clear H hs Hwf
      have hsl' : s.length ≤ 150 := by omega
      have B6 := hid (PlB.new X.out (.cells #[.int .i64 0, .int .i64 0, .int .i64 0] 28))
      have hba := below_alloc wr (.cells #[.int .i64 0, .int .i64 0, .int .i64 0] 28)
      have hb6 := hid (hb.trans (hba.mono hb.size))
      go_wp2_with fail
      obtain ⟨BB, hBB⟩ : ∃ BB, wr.heap.size = BB := ⟨_, rfl⟩
      have HBB := hid (show w.heap.size ≤ BB by have := hb.size; omega)
      have Hss2 := Hss
      rw [hBB] at B6 ⊢
      clear hBB
      go_loopw [7] (fun iv wx => ∃ (j : Nat) (lk lr : Int), iv = .int .i64 j ∧ j ≤ s.length ∧ Hid (PlB w.heap.size wx p (s.drop j) BB (.cells #[.int .i64 0, .int .i64 lk, .int .i64 lr] 28)) ∧ Hid (0 < j → s[j - 1]? = some (lk, lr)) ∧ Hid (Below w.heap.size w wx)) (fun iv _ => s.length - (intOf iv).toNat)
      case atStart => exact ⟨0, 0, 0, rfl, Nat.zero_le _, B6, hid (fun h => absurd h (Nat.lt_irrefl _)), hb6⟩
      case round =>
        clear B6 hb6 hb hba X
        obtain ⟨j, lk, lr, rfl, hj, X, Hl, HB⟩ := hrel
        by_cases hlt : j < s.length
        · have hdr : s.drop j = s[j] :: s.drop (j + 1) := List.drop_eq_getElem_cons hlt
          obtain ⟨x, hx⟩ : ∃ x, s[j] = x := ⟨_, rfl⟩
          rw [hx] at hdr
          obtain ⟨xk, xr⟩ := x
          have P := hid (plB_Pop X.out HB.out.size (by rw [List.length_drop]; omega))
          rw [hdr, show topV ((xk, xr) :: s.drop (j + 1)) = .tuple #[.int .i64 xk, .int .i64 xr, .bool true] from rfl, List.tail_cons] at P
          have i1 : (0 : Int) ≤ (j : Int) := by omega
          have i2 : (j : Int) < (s.length : Int) := by omega
          have Hx := hid (show s[j]? = some (xk, xr) from by rw [List.getElem?_eq_getElem hlt, hx])
          clear hdr hx
          go_wp2_with fail
          refine (P.out).mono ?_
          rintro e w4 ⟨rfl, X4, b4⟩
          have HX4 := hid X4
          have hat := X4.at_
          have c0 : w4.cell? ⟨BB, 0, none⟩ = some (.int .i64 0) := by simp [World.cell?, hat]
          have c1 : w4.cell? ⟨BB, 1, none⟩ = some (.int .i64 lk) := by simp [World.cell?, hat]
          have c2 : w4.cell? ⟨BB, 2, none⟩ = some (.int .i64 lr) := by simp [World.cell?, hat]
          have f0 : w4.frozen? ⟨BB, 0, none⟩ = false := by simp [World.frozen?, hat]
          have f1 : w4.frozen? ⟨BB, 1, none⟩ = false := by simp [World.frozen?, hat]
          have f2 : w4.frozen? ⟨BB, 2, none⟩ = false := by simp [World.frozen?, hat]
          clear hat X4
          have HB4 := hid (((((HB.out.trans b4).setCell (p := ⟨BB, 0, none⟩) HBB.out (.int .i64 0)).setCell (p := ⟨BB, 1, none⟩) HBB.out (.int .i64 xk)).setCell (p := ⟨BB, 2, none⟩) HBB.out (.int .i64 xr)))
          have HX5 := hid (HX4.out.set3 (.int .i64 0) (.int .i64 xk) (.int .i64 xr))
          clear b4 P X HB
          by_cases h0 : j = 0
          · subst h0
            go_wp2_with fail
            exact ⟨⟨1, xk, xr, by go_num, by omega, HX5, hid (fun _ => Hx.out), HB4⟩, by simp [intOf]; omega⟩
          · have i3 : (0 : Int) < (j : Int) := by omega
            have hlt2 := srt_next Hss2.out (Hl.out (by omega)) Hx.out (by omega)
            unfold Pil.lt at hlt2
            simp only at hlt2
            have i4 : lr ≤ xr := by omega
            by_cases he : xr = lr
            · have i5 : lk < xk := by omega
              have e1 : (xr == lr) = true := by rw [beq_iff_eq]; exact he
              subst he
              clear hlt2 h0
              go_wp2_with fail
              exact ⟨⟨j + 1, xk, xr, by go_num, by omega, HX5, hid (fun _ => Hx.out), HB4⟩, by simp [intOf]; omega⟩
            · have e1 : (xr == lr) = false := by rw [beq_eq_false_iff_ne]; exact he
              clear hlt2 h0 he
              go_wp2_with fail
              exact ⟨⟨j + 1, xk, xr, by go_num, by omega, HX5, hid (fun _ => Hx.out), HB4⟩, by simp [intOf]; omega⟩
        · obtain rfl : j = s.length := by omega
          have hdr : s.drop s.length = [] := List.drop_length
          rw [hdr] at X
          have P := hid (o_Pop X.out.pl HB.out.size (by simp))
          rw [show topV [] = .tuple #[.int .i64 0, .int .i64 0, .bool false] from rfl, List.tail_nil] at P
          clear hdr X
          go_wp2_with fail
          refine (P.out).mono ?_
          rintro e w4 ⟨rfl, X4, b4⟩
          have L := hid (o_Len X4 (by simp))
          unfold LnRet at L
          have HB4 := hid (HB.out.trans b4)
          clear X4 b4 P HB
          go_wp2_with fail
          refine (L.out).mono ?_
          rintro e w5 ⟨rfl, b5⟩
          have HB5 := hid (below2 HB4.out b5)
          clear L b5
          go_wp2_with fail
          refine (heads _).mono ?_
          rintro e w6 ⟨rfl, b6⟩
          go_wp2_with fail
          go_ret
          exact ⟨rfl, below2 HB5.out b6⟩

/-! ### THE ROW's STEP: WRITTEN OUT: LEAVE IT -/
set_option maxRecDepth 100000 in
theorem lifted (os : Os) (started : os.Started) (H : Type) (enc : TypeId × Value → H) :
    ReturnsInHanded {} Try.checked os 4 .any (Rows.pilePopsSpec.pre6 enc Try.prog Try.f4 Rows.pilePopsRow.domain false) (Rows.pilePopsSpec.post enc Try.prog Try.f4 false true false false) := by
  refine returnsInHanded_of_change (C := Try.checked) own started (by kernel_rfl) Try.func4
    (ChangeSpec.witness6 (enc := enc) (C := Try.checked) false ⟨#[], #[.slice none 0 0], []⟩ 8 (by kernel_rfl) (by kernel_rfl) (by kernel_rfl) (by kernel_rfl)) ?_
  intro W base args ds gs before hval0 hW hcnd _
  have hval : ∀ (j : Nat) t v, Try.f4.params[j]? = some t → args[j]? = some v → Value.okWide Try.prog W .any base t v := hval0
  have hW' := hW
  obtain ⟨p, q, hA0, hV, rfl, hfz, hnd⟩ := hW
  have hA : DataW.TrodAll enc Try.prog W 0 (fun _ => true) true Try.f4.params.toList args.toList ds p := hA0
  rw [Try.params4] at hA hval
  obtain ⟨v0, vs0, d0, ds0, p0, q0, hargs, rfl, rfl, h0, r0⟩ := trodAll_cons hA
  obtain ⟨rfl, rfl, rfl⟩ := trodAll_nil r0
  obtain rfl : args = #[v0] := by cases args; simp_all
  obtain ⟨rfl, rfl⟩ := trodVars_none hV
  obtain ⟨a0, len0, cap0, rfl⟩ := okWide_slice Try.underlying22 (hval 0 22 v0 rfl rfl)
  have k0 := h0
  have lt0 : ∀ x ∈ p0, x.block < W.heap.size := by obtain ⟨m, hm⟩ := k0; exact DataW.trod_lt m _ _ _ hm
  obtain ⟨z0, w0⟩ : ∃ zs, IsRowQ W a0 len0 cap0 zs := by
    obtain ⟨fuel, hf⟩ := h0
    exact open_opq Try.underlying22 Try.underlying28 (by kernel_rfl) (by kernel_rfl) Try.underlying3 Try.underlying3 Try.underlying3 hf
  clear hA0 hval0
  refine (walk a0 len0 cap0 z0 W w0).mono fun e W' ⟨he, bel⟩ => ?_
  subst he
  exact ⟨_, rfl, _, _, _, [], _, [], hW', trodAll_mk1 (shut_bool Try.underlying4 _), (trodAll_cons_mk (Below.trod laidOut (by kernel_rfl) (of_decide_eq_true (by kernel_rfl)) k0 bel lt0) trodAll_mk0), rfl, bel.frame _, fun h => by cases h⟩

theorem over : Rows.pilePopsRow.holds Try.pinned (OpenSpec.ofChange Rows.pilePopsSpec) :=
  OpenClaim.holds_of_wide 4 Try.f4 rfl rfl rfl rfl rfl rfl rfl ⟨rfl, rfl, rfl, rfl, rfl⟩ rfl rfl rfl rfl rfl (by kernel_rfl) Try.func4 (by kernel_rfl)
    (of_decide_eq_true (by kernel_rfl)) (by unfold Func.isWrapper; first | (rw [if_pos (by decide +kernel)]; kernel_rfl) | (rw [if_neg (by decide +kernel)]; exact ⟨rfl, rfl⟩))
    (fun os started H enc _ => lifted os started H enc)

/-- ████ THE STATEMENT ████ -/
theorem proved : Rows.PilePopsSaid := over
#print axioms proved
end Go.Proofs.Ytojballaghkojaa.pilePops

/- Proves 'RoomBackSaid': for every input the Go function RoomBack returns true, and each argument reads afterwards as it read before. Conditions: none beyond the row's own. -/
import Derived.Test.YteldcaebbmaemaaRows
import Derived.WalkKit
import Derived.ProofKit
import Derived.OpenShut
import Derived.ShutString
import Derived.SliceStrings
import Derived.ChangeOld
import Derived.Below
import Derived.Test.YteldcaebbmaemaaRomCl
namespace Go.Proofs.Yteldcaebbmaemaa.roomBack
open Go.ChangeShapes Go.WideShapes Go.ChangeAt Go.RowKit
open Go.ChangeMaps (open_string shut_string)
set_option linter.unusedVariables false

theorem own : ownKnob Try.prog.godebug = none := by kernel_rfl
theorem laidOut : laidOutB Try.prog = true := by kernel_rfl

/-- WHAT THE WALK IS TOLD OF A SLICE OF INTEGERS THAT CAME IN: it is nil; or it leads to a row of 'cap' cells, the numbers 'zs' (the first 'len' are its elements, the rest its spare room), each fitting its kind. -/
def IsRow (k : IntKind) (w : World) (a : Option Addr) (len cap : Nat) (zs : List Int) : Prop :=
  (a = none ∧ len = 0 ∧ cap = 0 ∧ zs = []) ∨
  ∃ x, a = some x ∧ len ≤ cap ∧ cap ≤ maxLen ∧ zs.length = cap ∧ (∀ i, i < zs.length → w.cell? (x.add i) = some (.int k (zs.getD i 0))) ∧ ∀ n ∈ zs, (Lit.int k n).wf = true

/-! ### STEP 1: THE WALK: the Go text returns true, AND WRITES NOTHING THAT WAS THERE: 'Below w.heap.size w w'' (Derived/Below.lean: '.refl', '.alloc', '.drew', '.setCell' at a new block, '.trans'). Open each 'IsRow' by 'rcases' AHEAD of 'go_enter'; part every test ahead of the walk. -/
set_option maxRecDepth 20000 in
set_option maxHeartbeats 16000000 in
theorem walk (a0 : RmA) (a1 : Whn.Wh) (w : World) (w0 : RmIn w a0) (w1 : Wok a1) :
    Calls Try.prog 6 #[rvA a0, wv a1] w fun e w' => e = .returned (.bool true) ∧ Below w.heap.size w w' := by
  obtain ⟨r, A, c⟩ := a0
  obtain ⟨hok, hw1, hlc, hcm⟩ := w0
  simp only at hok hw1 hlc hcm
  show Calls Try.prog 6 #[rv r A c, wv a1] w (Did (.bool true) w)
  have H := hid hw1
  have HF := hid (fun X => p_few r A c X)
  have HH := hid (fun X => hd_ok X)
  obtain ⟨P, W1, hP, hW1, K1, z1⟩ := (Mem.nil w).one (rc r A c) 27
  obtain ⟨D, W2, hD, hW2, K2, z2⟩ := K1.out.one (wc a1) 30
  clear z1 z2 K1 hok hw1 hcm w1
  obtain ⟨r0, r1, r2, r3⟩ := K2.out.rm (B := P) (r := r) (A := A) (c := c) (by simp)
  by_cases hf : (r.l.length : Int) ≤ 30
  · have hf1 : fewB r = true := decide_eq_true hf
    rw [hf1] at HF
    have h30 : r.l.length ≤ 30 := by omega
    have HRo := hid (fun hx A c hmc X h => back_reopen r a1 hx (by omega) A c hmc X h)
    have HSa := hid (fun A A2 c c2 X h h2 => back_same r A A2 c c2 (by omega) X h h2)
    have HNo := hid (fun A A2 c c2 X h h2 => back_not r a1 A A2 c c2 (by omega) X h h2)
    clear hf hf1
    go_enter Try.func6, Try.ntmps6
    go_wp2_with fail
    refine (HF.out _).mono ?_
    rintro e Y1 ⟨rfl, b1⟩
    have K3 := hid (K2.out.next b1)
    clear r0 r1 r2 r3 b1 K2
    go_wp2_with fail
    go_loopw [5] (fun iv wr => ∃ (k : Nat), iv = .int .i64 k ∧ k ≤ r.l.length ∧ Hid (Mem w wr [(D, wc a1, 30), (P, rc r A c, 27)]) ∧ Hid (∀ y ∈ r.l.take k, y ≠ a1)) (fun iv _ => r.l.length - (intOf iv).toNat)
    case atStart => exact ⟨0, rfl, Nat.zero_le _, hid (K3.out.sub (by simp)), hid (fun y hy => by simp at hy)⟩
    case round =>
      clear K3
      obtain ⟨k, rfl, hk, KM, hsame⟩ := hrel
      obtain ⟨r0, r1, r2, r3⟩ := KM.out.rm (B := P) (r := r) (A := A) (c := c) (by simp)
      by_cases hlt : k < r.l.length
      · obtain ⟨ad, y, rfl, had, hx, hxl⟩ := whs_ad H.out hlt
        have b1 : (0 : Int) ≤ (k : Int) := by omega
        have b2 : (k : Int) < r.l.length := by omega
        clear HRo HSa HNo
        go_wp2_with fail
        refine wp_region_held_drew (S := fun X => Mem w X [(D, wc a1, 30), (P, rc r (some ad) c, 27)]) (by kernel_rfl) KM.out.drew (fun hHeld => ?_)
        refine takeH 0 21 (.pointer (some ⟨P, 3, none⟩)) rfl rfl (by kernel_rfl) (by kernel_rfl) (by kernel_rfl) (fun _ _ _ h => h) (by kernel_rfl) (fun X hX => by clear hX; first | rfl | go_simp) hHeld ?_
        simp only [Act.put, List.setIfInBounds_toArray, List.set_cons_zero, List.set_cons_succ]
        refine takeH 1 22 (.slice (some ad) r.l.length c) rfl rfl (by kernel_rfl) (by kernel_rfl) (by kernel_rfl) (fun _ _ _ h => h) (by kernel_rfl) (fun X hX => by obtain ⟨q0, q1, q2, q3⟩ := hX.rm (B := P) (r := r) (A := (some ad)) (c := c) (by simp); clear hX; go_simp) hHeld ?_
        simp only [Act.put, List.setIfInBounds_toArray, List.set_cons_zero, List.set_cons_succ]
        refine takeH 2 23 (.int .i64 k) rfl rfl (by kernel_rfl) (by kernel_rfl) (by kernel_rfl) (fun _ _ _ h => h) (by kernel_rfl) (fun X hX => by clear hX; first | rfl | go_simp) hHeld ?_
        simp only [Act.put, List.setIfInBounds_toArray, List.set_cons_zero, List.set_cons_succ]
        refine takeH 3 24 (.pointer (some (ad.add (k * 4)))) rfl rfl (by kernel_rfl) (by kernel_rfl) (by kernel_rfl) (fun _ _ _ h => h) (by kernel_rfl) (fun X hX => by clear hX; go_simp) hHeld ?_
        simp only [Act.put, List.setIfInBounds_toArray, List.set_cons_zero, List.set_cons_succ]
        refine takeH 4 25 (wv y) rfl rfl (by kernel_rfl) (by kernel_rfl) (by kernel_rfl) (fun _ _ _ h => h) (by kernel_rfl) (fun X hX => by obtain ⟨c0, c1, c2, c3⟩ := whs_at (H.out.below hX.2 (Nat.le_refl _)) hx.out; clear hX; go_simp) hHeld ?_
        simp only [Act.put, List.setIfInBounds_toArray, List.set_cons_zero, List.set_cons_succ]
        refine takeH 5 26 (wv a1) rfl rfl (by kernel_rfl) (by kernel_rfl) (by kernel_rfl) (fun _ _ _ h => h) (by kernel_rfl) (fun X hX => by obtain ⟨c0, c1, c2, c3⟩ := hX.wh (B := D) (x := a1) (by simp); clear hX; go_simp) hHeld ?_
        simp only [Act.put, List.setIfInBounds_toArray, List.set_cons_zero, List.set_cons_succ]
        refine takeH 6 27 (.bool (whEq y a1)) rfl rfl (by kernel_rfl) (by kernel_rfl) (by kernel_rfl) (fun _ _ _ h => h) (by kernel_rfl) (fun X hX => by clear hX; go_simp; exact ifs_whe y a1 X) hHeld ?_
        simp only [Act.put, List.setIfInBounds_toArray, List.set_cons_zero, List.set_cons_succ]
        refine wpAnyH_done (by kernel_rfl) ?_ _
        have K4 := hid KM.out.drew
        cases hR : whEq y a1 with
        | true =>
          go_wp2_with fail
          refine (HH.out _).mono ?_
          rintro e Y2 ⟨rfl, b2⟩
          go_wp2_with fail
          go_ret
          exact ⟨rfl, (K4.out.next b2).2⟩
        | false =>
          have hne := hid (show y ≠ a1 from fun e => by
            rw [(whEq_iff y a1).2 e] at hR
            cases hR)
          clear hR
          go_wp2_with fail
          refine ⟨⟨k + 1, by go_num, by omega, K4, ?_⟩, by simp [intOf]; omega⟩
          refine hid (fun z hz => ?_)
          rw [List.take_add_one, hx.out, List.mem_append] at hz
          rcases hz with hz | hz
          · exact hsame.out z hz
          · simp at hz
            rw [hz]; exact hne.out
      · have hxn := hid (show a1 ∉ r.l from fun hx => hsame.out a1 (by rw [List.take_of_length_le (by omega)]; exact hx) rfl)
        have b2 : ¬ (k : Int) < r.l.length := by omega
        obtain ⟨c0, c1, c2, c3⟩ := KM.out.wh (B := D) (x := a1) (by simp)
        by_cases h16 : 16 ≤ r.l.length
        · have HC := hid (p_CloseFull r A c h16 a1 wr)
          have h16' : (16 : Int) ≤ (r.l.length : Int) := by omega
          go_wp2_with fail
          refine HC.out.mono ?_
          rintro e Y2 ⟨Aa, ca, rfl, hwa, hca, b2⟩
          have K4 := hid (KM.out.next b2)
          obtain ⟨B1, V1, hB1, hV1, K5, y1⟩ := K4.out.one (rc rm0 Aa ca) 27
          clear r0 r1 r2 r3 c0 c1 c2 c3 b2 KM K4 y1 hwa
          obtain ⟨r0, r1, r2, r3⟩ := K5.out.rm (B := P) (r := r) (A := A) (c := c) (by simp)
          go_wp2_with fail
          refine (HH.out _).mono ?_
          rintro e Y3 ⟨rfl, b2⟩
          go_wp2_with fail
          go_ret
          exact ⟨rfl, (K5.out.next b2).2⟩
        · have HC := hid (p_Close r A c (by omega) a1 wr ((H.out.below KM.out.2 (Nat.le_refl _)).more KM.out.2.size))
          generalize r.l ++ [a1] = ll at *
          go_wp2_with fail
          refine HC.out.mono ?_
          rintro e Y2 ⟨Aa, ca, rfl, hwa, hca, b2⟩
          have K4 := hid (KM.out.next b2)
          obtain ⟨B1, V1, hB1, hV1, K5, y1⟩ := K4.out.one (rc ⟨r.n, r.s, r.g, ll⟩ Aa ca) 27
          have hwa1 := hid ((hwa.below y1 (Nat.le_refl _)).more y1.size)
          clear r0 r1 r2 r3 c0 c1 c2 c3 b2 KM K4 y1 hwa
          obtain ⟨r0, r1, r2, r3⟩ := K5.out.rm (B := B1) (r := ⟨r.n, r.s, r.g, ll⟩) (A := Aa) (c := ca) (by simp)
          obtain ⟨c0, c1, c2, c3⟩ := K5.out.wh (B := D) (x := a1) (by simp)
          go_wp2_with fail
          refine (HRo.out hxn.out Aa ca hca _ hwa1.out).mono ?_
          rintro e Y3 ⟨Ab, cb, rfl, hwb, hcb, b2⟩
          have K6 := hid (K5.out.next b2)
          obtain ⟨B2, V2, hB2, hV2, K7, y1⟩ := K6.out.one (rc r Ab cb) 27
          have b3 := b2.trans (y1.mono b2.size)
          have hwa2 := hid ((hwa1.out.below b3 (Nat.le_refl _)).more b3.size)
          have hwb1 := hid ((hwb.below y1 (Nat.le_refl _)).more y1.size)
          clear r0 r1 r2 r3 c0 c1 c2 c3 b2 b3 K5 K6 y1 hwa1 hwb
          obtain ⟨r0, r1, r2, r3⟩ := K7.out.rm (B := B1) (r := ⟨r.n, r.s, r.g, ll⟩) (A := Aa) (c := ca) (by simp)
          obtain ⟨s0, s1, s2, s3⟩ := K7.out.rm (B := B2) (r := r) (A := Ab) (c := cb) (by simp)
          obtain ⟨t0, t1, t2, t3⟩ := K7.out.rm (B := P) (r := r) (A := A) (c := c) (by simp)
          go_wp2_with fail
          refine (HSa.out Ab A cb c _ hwb1.out ((H.out.below K7.out.2 (Nat.le_refl _)).more K7.out.2.size)).mono ?_
          rintro e Y4 ⟨rfl, b2⟩
          have K8 := hid (K7.out.next b2)
          have hwa3 := hid ((hwa2.out.below b2 (Nat.le_refl _)).more b2.size)
          clear r0 r1 r2 r3 s0 s1 s2 s3 t0 t1 t2 t3 b2 K7 hwa2 hwb1
          obtain ⟨r0, r1, r2, r3⟩ := K8.out.rm (B := B1) (r := ⟨r.n, r.s, r.g, ll⟩) (A := Aa) (c := ca) (by simp)
          obtain ⟨t0, t1, t2, t3⟩ := K8.out.rm (B := P) (r := r) (A := A) (c := c) (by simp)
          go_wp2_with fail
          refine (HNo.out Aa A ca c _ hwa3.out ((H.out.below K8.out.2 (Nat.le_refl _)).more K8.out.2.size)).mono ?_
          rintro e Y5 ⟨rfl, b2⟩
          have K9 := hid (K8.out.next b2)
          clear r0 r1 r2 r3 t0 t1 t2 t3 b2 K8 hwa3
          go_wp2_with fail
          refine (HH.out _).mono ?_
          rintro e Y6 ⟨rfl, b2⟩
          go_wp2_with fail
          go_ret
          exact ⟨rfl, (K9.out.next b2).2⟩
  · have hf1 : fewB r = false := decide_eq_false hf
    rw [hf1] at HF
    clear hf hf1
    go_enter Try.func6, Try.ntmps6
    go_wp2_with fail
    refine (HF.out _).mono ?_
    rintro e Y1 ⟨rfl, b1⟩
    have K3 := hid (K2.out.next b1)
    go_wp2_with fail
    refine (HH.out _).mono ?_
    rintro e Y2 ⟨rfl, b2⟩
    go_wp2_with fail
    go_ret
    exact Did.mk rfl (K3.out.next b2).2

/-! ### THE ROW's STEP: WRITTEN OUT: LEAVE IT -/
set_option maxRecDepth 100000 in
theorem lifted (os : Os) (started : os.Started) (H : Type) (enc : TypeId × Value → H) :
    ReturnsInHanded {} Try.checked os 6 .any (Rows.roomBackSpec.pre6 enc Try.prog Try.f6 Rows.roomBackRow.domain false) (Rows.roomBackSpec.post enc Try.prog Try.f6 false true false false) := by
  refine returnsInHanded_of_change (C := Try.checked) own started (by kernel_rfl) Try.func6
    (ChangeSpec.witness6 (enc := enc) (C := Try.checked) false ⟨#[], #[.agg #[.string ⟨#[]⟩, .int .i64 0, .int .u16 0, .slice none 0 0], .agg #[.int .u32 0, .int .u8 0, .int .i64 0, .int .i64 0]], []⟩ 8 (by kernel_rfl) (by kernel_rfl) (by kernel_rfl) (by kernel_rfl)) ?_
  intro W base args ds gs before hval0 hW hcnd _
  have hval : ∀ (j : Nat) t v, Try.f6.params[j]? = some t → args[j]? = some v → Value.okWide Try.prog W .any base t v := hval0
  have hW' := hW
  obtain ⟨p, q, hA0, hV, rfl, hfz, hnd⟩ := hW
  have hA : DataW.TrodAll enc Try.prog W 0 (fun _ => true) true Try.f6.params.toList args.toList ds p := hA0
  rw [Try.params6] at hA hval
  obtain ⟨v0, vs0, d0, ds0, p0, q0, hargs, rfl, rfl, h0, r0⟩ := trodAll_cons hA
  obtain ⟨v1, vs1, d1, ds1, p1, q1, rfl, rfl, rfl, h1, r1⟩ := trodAll_cons r0
  obtain ⟨rfl, rfl, rfl⟩ := trodAll_nil r1
  obtain rfl : args = #[v0, v1] := by cases args; simp_all
  obtain ⟨rfl, rfl⟩ := trodVars_none hV
  have k0 := h0
  have lt0 : ∀ x ∈ p0, x.block < W.heap.size := by obtain ⟨m, hm⟩ := k0; exact DataW.trod_lt m _ _ _ hm
  obtain ⟨a0, rfl, w0⟩ := open_roomA (hval 0 27 v0 rfl rfl) h0
  have k1 := h1
  have lt1 : ∀ x ∈ p1, x.block < W.heap.size := by obtain ⟨m, hm⟩ := k1; exact DataW.trod_lt m _ _ _ hm
  obtain ⟨a1, rfl, w1⟩ := open_wh (hval 1 30 v1 rfl rfl) h1
  clear hA0 hval0
  refine (walk a0 a1 W w0 w1).mono fun e W' ⟨he, bel⟩ => ?_
  subst he
  exact ⟨_, rfl, _, _, _, [], _, [], hW', trodAll_mk1 (shut_bool Try.underlying4 _), (trodAll_cons_mk (Below.trod laidOut (by kernel_rfl) (of_decide_eq_true (by kernel_rfl)) k0 bel lt0) (trodAll_cons_mk (Below.trod laidOut (by kernel_rfl) (of_decide_eq_true (by kernel_rfl)) k1 bel lt1) trodAll_mk0)), rfl, bel.frame _, fun h => by cases h⟩

theorem over : Rows.roomBackRow.holds Try.pinned (OpenSpec.ofChange Rows.roomBackSpec) :=
  OpenClaim.holds_of_wide 6 Try.f6 rfl rfl rfl rfl rfl rfl rfl ⟨rfl, rfl, rfl, rfl, rfl⟩ rfl rfl rfl rfl rfl (by kernel_rfl) Try.func6 (by kernel_rfl)
    (of_decide_eq_true (by kernel_rfl)) (by unfold Func.isWrapper; first | (rw [if_pos (by decide +kernel)]; kernel_rfl) | (rw [if_neg (by decide +kernel)]; exact ⟨rfl, rfl⟩))
    (fun os started H enc _ => lifted os started H enc)

/-- ████ THE STATEMENT ████ -/
theorem proved : Rows.RoomBackSaid := over
#print axioms proved
end Go.Proofs.Yteldcaebbmaemaa.roomBack

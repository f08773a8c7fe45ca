/- Proves 'RoomOpensSaid': for every input the Go function RoomOpens returns true, and each argument reads afterwards as it read before. Conditions: none beyond the row's own. -/
import Derived.Test.YteldcaebbmaemaaRows
import Derived.WalkKit
import Derived.ProofKit
import Derived.OpenShut
import Derived.ShutString
import Derived.SliceStrings
import Derived.ChangeOld
import Derived.Below
import Derived.Test.YteldcaebbmaemaaRomOp
namespace Go.Proofs.Yteldcaebbmaemaa.roomOpens
open Go.ChangeShapes Go.WideShapes Go.ChangeAt Go.RowKit
open Go.ChangeMaps (open_string shut_string)
set_option linter.unusedVariables false

theorem own : ownKnob Try.prog.godebug = none := by kernel_rfl
theorem laidOut : laidOutB Try.prog = true := by kernel_rfl

/-- WHAT THE WALK IS TOLD OF A SLICE OF INTEGERS THAT CAME IN: it is nil; or it leads to a row of 'cap' cells, the numbers 'zs' (the first 'len' are its elements, the rest its spare room), each fitting its kind. -/
def IsRow (k : IntKind) (w : World) (a : Option Addr) (len cap : Nat) (zs : List Int) : Prop :=
  (a = none ∧ len = 0 ∧ cap = 0 ∧ zs = []) ∨
  ∃ x, a = some x ∧ len ≤ cap ∧ cap ≤ maxLen ∧ zs.length = cap ∧ (∀ i, i < zs.length → w.cell? (x.add i) = some (.int k (zs.getD i 0))) ∧ ∀ n ∈ zs, (Lit.int k n).wf = true

/-! ### STEP 1: THE WALK: the Go text returns true, AND WRITES NOTHING THAT WAS THERE: 'Below w.heap.size w w'' (Derived/Below.lean: '.refl', '.alloc', '.drew', '.setCell' at a new block, '.trans'). Open each 'IsRow' by 'rcases' AHEAD of 'go_enter'; part every test ahead of the walk. -/
set_option maxRecDepth 20000 in
set_option maxHeartbeats 16000000 in
theorem walk (a0 : Whn.Gr) (a1 : RmA) (a2 : Whn.Wh) (w : World) (w0 : Gok a0) (w1 : RmIn w a1) (w2 : Wok a2) :
    Calls Try.prog 8 #[gv a0, rvA a1, wv a2] w fun e w' => e = .returned (.bool true) ∧ Below w.heap.size w w' := by
  obtain ⟨r, A, c⟩ := a1
  obtain ⟨hok, hw1, hlc, hcm⟩ := w1
  simp only at hok hw1 hlc hcm
  show Calls Try.prog 8 #[gv a0, rv r A c, wv a2] w (Did (.bool true) w)
  have hm : r.l.length ≤ maxLen := Nat.le_trans hlc hcm
  have H := hid hw1
  have HF := hid (fun X => p_few r A c X)
  have HH := hid (fun X => hd_ok X)
  have HR1 := hid (fun X h => p_RightRoom a0 r A c hok hm X h)
  have HR2 := hid (fun X => r_Right a0 a2 w2 X)
  have HS := hid (fun X h => p_Shut r A c hok hm a2 w2 X h)
  have HO := hid (fun X h => p_Open a0 r A c hok hm X h)
  have HM := hid (fun X => r_Moments a0 a2 w2 X)
  clear w0 w2 hw1 hlc hcm hm hok
  obtain ⟨G, W0, hG, hW0, K0, z0⟩ := (Mem.nil w).one (gc a0) 23
  obtain ⟨P, W1, hP, hW1, K1, z1⟩ := K0.out.one (rc r A c) 27
  obtain ⟨D, W2, hD, hW2, K2, z2⟩ := K1.out.one (wc a2) 30
  clear z0 z1 z2 K0 K1
  obtain ⟨r0, r1, r2, r3⟩ := K2.out.rm (B := P) (r := r) (A := A) (c := c) (by simp)
  generalize fewB r = f1 at *
  go_enter Try.func8, Try.ntmps8
  go_wp2_with fail
  refine (HF.out _).mono ?_
  rintro e Y1 ⟨rfl, b1⟩
  have K3 := hid (K2.out.next b1)
  clear r0 r1 r2 r3 b1 K2
  obtain ⟨r0, r1, r2, r3⟩ := K3.out.rm (B := P) (r := r) (A := A) (c := c) (by simp)
  obtain ⟨g0, g1, g2⟩ := K3.out.gr (B := G) (g := a0) (by simp)
  cases f1 with
  | false =>
    go_wp2_with fail
    refine (HH.out _).mono ?_
    rintro e Y2 ⟨rfl, b2⟩
    go_wp2_with fail
    go_ret
    exact Did.mk rfl (K3.out.next b2).2
  | true =>
    go_wp2_with fail
    refine (HR1.out _ ((H.out.below K3.out.2 (Nat.le_refl _)).more K3.out.2.size)).mono ?_
    rintro e Y2 ⟨rfl, b1⟩
    have K4 := hid (K3.out.next b1)
    clear r0 r1 r2 r3 g0 g1 g2 b1 K3
    obtain ⟨c0, c1, c2, c3⟩ := K4.out.wh (B := D) (x := a2) (by simp)
    obtain ⟨g0, g1, g2⟩ := K4.out.gr (B := G) (g := a0) (by simp)
    cases hrr : rmRight a0 r with
    | false =>
      go_wp2_with fail
      refine (HH.out _).mono ?_
      rintro e Y3 ⟨rfl, b2⟩
      go_wp2_with fail
      go_ret
      exact Did.mk rfl (K4.out.next b2).2
    | true =>
      go_wp2_with fail
      refine (HR2.out _).mono ?_
      rintro e Y3 ⟨rfl, b1⟩
      have K5 := hid (K4.out.next b1)
      clear c0 c1 c2 c3 g0 g1 g2 b1 K4
      obtain ⟨r0, r1, r2, r3⟩ := K5.out.rm (B := P) (r := r) (A := A) (c := c) (by simp)
      obtain ⟨g0, g1, g2⟩ := K5.out.gr (B := G) (g := a0) (by simp)
      cases hxr : Whn.right a0 a2 with
      | false =>
        go_wp2_with fail
        refine (HH.out _).mono ?_
        rintro e Y4 ⟨rfl, b2⟩
        go_wp2_with fail
        go_ret
        exact Did.mk rfl (K5.out.next b2).2
      | true =>
        have hal : r.l.all (Whn.right a0) = true := by
          unfold rmRight at hrr
          simp only [Bool.and_eq_true] at hrr
          exact hrr.2.1
        have HE := hid (shut_all hal hxr)
        have hol := opn_len a0 r.l (Whn.all a0).toNat
        have hal2 := Whn.all_le a0
        have hml := Whn.moments_len a0 a2
        have hol2 : (opn a0 r.l (Whn.all a0).toNat).length ≤ 13440 := by omega
        rw [hrr, if_pos rfl] at HO
        clear hrr hxr hal hol hal2 HR1 HR2
        generalize opn a0 r.l (Whn.all a0).toNat = op at *
        generalize Whn.moments a0 a2 = ms at *
        generalize (r.l.any fun y => Whn.meet y a2) = ss at *
        go_wp2_with fail
        refine (HO.out _ ((H.out.below K5.out.2 (Nat.le_refl _)).more K5.out.2.size)).mono ?_
        rintro e Y4 ⟨Ao, co, rfl, ho, b1⟩
        have K6 := hid (K5.out.next b1)
        clear r0 r1 r2 r3 g0 g1 g2 b1 K5
        obtain ⟨c0, c1, c2, c3⟩ := K6.out.wh (B := D) (x := a2) (by simp)
        obtain ⟨g0, g1, g2⟩ := K6.out.gr (B := G) (g := a0) (by simp)
        go_wp2_with fail
        refine (HM.out _).mono ?_
        rintro e Y5 ⟨Am, cm, rfl, hi, b1⟩
        have K7 := hid (K6.out.next b1)
        have Ho := hid (its_next ho b1)
        have Hi := hid hi
        clear c0 c1 c2 c3 g0 g1 g2 b1 K6 ho hi
        go_wp2_with fail
        have Ha0 := hid (show allT ms op 0 = true by unfold allT; rw [decide_eq_true_iff]; intro m hm; simp at hm)
        have Hi0 := hid (fun x => show inT op x 0 = false by unfold inT; rw [decide_eq_false_iff_not]; simp)
        have Has := hid (fun (i : Nat) (x : Int) (h : ms[i]? = some x) => allT_succ (op := op) h)
        have His := hid (fun (k : Nat) (x y : Int) (h : op[k]? = some y) => inT_succ (x := x) h)
        have HE2 := hid (show ss = !(allT ms op ms.length) by rw [HE.out]; unfold allT; rw [List.take_length])
        clear HE
        generalize allT ms op = AT at *
        generalize inT op = IT at *
        go_loopw [9, 10] (fun av iv wr => ∃ i : Nat, iv = .int .i64 i ∧ i ≤ ms.length ∧ av = .bool (AT i) ∧ Hid (Below Y5.heap.size Y5 wr)) (fun _ iv _ => ms.length - (intOf iv).toNat)
        case atStart => exact ⟨0, rfl, Nat.zero_le _, by rw [Ha0.out], hid (Below.refl _ _)⟩
        case round =>
          obtain ⟨i, rfl, hil, rfl, HB⟩ := hrel
          by_cases hlt : i < ms.length
          · obtain ⟨am, x, rfl, _, hx, _⟩ := Its.get Hi.out hlt
            have b1 : (0 : Int) ≤ (i : Int) := by omega
            have b2 : (i : Int) < ms.length := by omega
            have Hsa := hid (Has.out i x hx.out)
            have His1 := hid (fun k y h => His.out k x y h)
            have Hi1 := hid (Hi0.out x)
            generalize IT x = IX at *
            go_wp2_with fail
            go_loopw [11, 12] (fun nv kv wr => ∃ k : Nat, kv = .int .i64 k ∧ k ≤ op.length ∧ nv = .bool (IX k) ∧ Hid (Below Y5.heap.size Y5 wr)) (fun _ kv _ => op.length - (intOf kv).toNat)
            case atStart => exact ⟨0, rfl, Nat.zero_le _, by rw [Hi1.out], HB⟩
            case round =>
              obtain ⟨k, rfl, hkl, rfl, HB2⟩ := hrel
              by_cases hkt : k < op.length
              · obtain ⟨ao, y, rfl, _, hy, _⟩ := Its.get Ho.out hkt
                have b3 : (0 : Int) ≤ (k : Int) := by omega
                have b4 : (k : Int) < op.length := by omega
                have Hs := hid (His1.out k y hy.out)
                cases hik : IX k with
                | true =>
                  rw [hik] at Hs
                  clear hik
                  go_wp2_with fail
                  refine wp_region_held_drew (S := fun X => Below Y5.heap.size Y5 X) (by kernel_rfl) HB2.out.drew (fun hHeld => ?_)
                  refine takeH 0 47 (.bool true) rfl rfl (by kernel_rfl) (by kernel_rfl) (by kernel_rfl) (fun _ _ _ h => h) (by kernel_rfl) (fun X hX => by clear hX; first | rfl | go_simp) hHeld ?_
                  simp only [Act.put, List.setIfInBounds_toArray, List.set_cons_zero, List.set_cons_succ]
                  refine takeH 1 48 (.bool true) rfl rfl (by kernel_rfl) (by kernel_rfl) (by kernel_rfl) (fun _ _ _ h => h) (by kernel_rfl) (fun X hX => by clear hX; first | rfl | go_simp) hHeld ?_
                  simp only [Act.put, List.setIfInBounds_toArray, List.set_cons_zero, List.set_cons_succ]
                  refine skipH 2 49 rfl rfl (by kernel_rfl) (by kernel_rfl) (by kernel_rfl) (fun _ _ _ h => h) (by kernel_rfl) hHeld ?_
                  simp only [Act.put, List.setIfInBounds_toArray, List.set_cons_zero, List.set_cons_succ]
                  refine skipH 3 50 rfl rfl (by kernel_rfl) (by kernel_rfl) (by kernel_rfl) (fun _ _ _ h => h) (by kernel_rfl) hHeld ?_
                  simp only [Act.put, List.setIfInBounds_toArray, List.set_cons_zero, List.set_cons_succ]
                  refine skipH 4 51 rfl rfl (by kernel_rfl) (by kernel_rfl) (by kernel_rfl) (fun _ _ _ h => h) (by kernel_rfl) hHeld ?_
                  simp only [Act.put, List.setIfInBounds_toArray, List.set_cons_zero, List.set_cons_succ]
                  refine skipH 5 52 rfl rfl (by kernel_rfl) (by kernel_rfl) (by kernel_rfl) (fun _ _ _ h => h) (by kernel_rfl) hHeld ?_
                  simp only [Act.put, List.setIfInBounds_toArray, List.set_cons_zero, List.set_cons_succ]
                  refine skipH 6 53 rfl rfl (by kernel_rfl) (by kernel_rfl) (by kernel_rfl) (fun _ _ _ h => h) (by kernel_rfl) hHeld ?_
                  simp only [Act.put, List.setIfInBounds_toArray, List.set_cons_zero, List.set_cons_succ]
                  refine skipH 7 54 rfl rfl (by kernel_rfl) (by kernel_rfl) (by kernel_rfl) (fun _ _ _ h => h) (by kernel_rfl) hHeld ?_
                  simp only [Act.put, List.setIfInBounds_toArray, List.set_cons_zero, List.set_cons_succ]
                  refine skipH 8 55 rfl rfl (by kernel_rfl) (by kernel_rfl) (by kernel_rfl) (fun _ _ _ h => h) (by kernel_rfl) hHeld ?_
                  simp only [Act.put, List.setIfInBounds_toArray, List.set_cons_zero, List.set_cons_succ]
                  refine skipH 9 56 rfl rfl (by kernel_rfl) (by kernel_rfl) (by kernel_rfl) (fun _ _ _ h => h) (by kernel_rfl) hHeld ?_
                  simp only [Act.put, List.setIfInBounds_toArray, List.set_cons_zero, List.set_cons_succ]
                  refine skipH 10 57 rfl rfl (by kernel_rfl) (by kernel_rfl) (by kernel_rfl) (fun _ _ _ h => h) (by kernel_rfl) hHeld ?_
                  simp only [Act.put, List.setIfInBounds_toArray, List.set_cons_zero, List.set_cons_succ]
                  refine takeH 11 58 (.bool true) rfl rfl (by kernel_rfl) (by kernel_rfl) (by kernel_rfl) (fun _ _ _ h => h) (by kernel_rfl) (fun X hX => by clear hX; first | rfl | go_simp) hHeld ?_
                  simp only [Act.put, List.setIfInBounds_toArray, List.set_cons_zero, List.set_cons_succ]
                  refine takeH 12 11 (.bool true) rfl rfl (by kernel_rfl) (by kernel_rfl) (by kernel_rfl) (fun _ _ _ h => h) (by kernel_rfl) (fun X hX => by clear hX; first | rfl | go_simp) hHeld ?_
                  simp only [Act.put, List.setIfInBounds_toArray, List.set_cons_zero, List.set_cons_succ]
                  refine wpAnyH_done (by kernel_rfl) ?_ _
                  go_wp2_with fail
                  exact ⟨⟨k + 1, by go_num, by omega, by rw [Hs.out]; rfl, hid HB2.out.drew⟩, by simp [intOf]; omega⟩
                | false =>
                  rw [hik] at Hs
                  clear hik
                  go_wp2_with fail
                  refine wp_region_held_drew (S := fun X => Below Y5.heap.size Y5 X) (by kernel_rfl) HB2.out.drew (fun hHeld => ?_)
                  refine takeH 0 47 (.bool false) rfl rfl (by kernel_rfl) (by kernel_rfl) (by kernel_rfl) (fun _ _ _ h => h) (by kernel_rfl) (fun X hX => by clear hX; first | rfl | go_simp) hHeld ?_
                  simp only [Act.put, List.setIfInBounds_toArray, List.set_cons_zero, List.set_cons_succ]
                  refine takeH 1 48 (.bool false) rfl rfl (by kernel_rfl) (by kernel_rfl) (by kernel_rfl) (fun _ _ _ h => h) (by kernel_rfl) (fun X hX => by clear hX; first | rfl | go_simp) hHeld ?_
                  simp only [Act.put, List.setIfInBounds_toArray, List.set_cons_zero, List.set_cons_succ]
                  refine takeH 2 49 (.slice (some ao) op.length co) rfl rfl (by kernel_rfl) (by kernel_rfl) (by kernel_rfl) (fun _ _ _ h => h) (by kernel_rfl) (fun X hX => by clear hX; first | rfl | go_simp) hHeld ?_
                  simp only [Act.put, List.setIfInBounds_toArray, List.set_cons_zero, List.set_cons_succ]
                  refine takeH 3 50 (.int .i64 k) rfl rfl (by kernel_rfl) (by kernel_rfl) (by kernel_rfl) (fun _ _ _ h => h) (by kernel_rfl) (fun X hX => by clear hX; first | rfl | go_simp) hHeld ?_
                  simp only [Act.put, List.setIfInBounds_toArray, List.set_cons_zero, List.set_cons_succ]
                  refine takeH 4 51 (.pointer (some (ao.add k))) rfl rfl (by kernel_rfl) (by kernel_rfl) (by kernel_rfl) (fun _ _ _ h => h) (by kernel_rfl) (fun X hX => by clear hX; go_simp) hHeld ?_
                  simp only [Act.put, List.setIfInBounds_toArray, List.set_cons_zero, List.set_cons_succ]
                  refine takeH 5 52 (.int .i64 y) rfl rfl (by kernel_rfl) (by kernel_rfl) (by kernel_rfl) (fun _ _ _ h => h) (by kernel_rfl) (fun X hX => by have hc := its_at (Ho.out.below hX (Nat.le_refl _)) hy.out; clear hX; go_simp) hHeld ?_
                  simp only [Act.put, List.setIfInBounds_toArray, List.set_cons_zero, List.set_cons_succ]
                  refine takeH 6 53 (.slice (some am) ms.length cm) rfl rfl (by kernel_rfl) (by kernel_rfl) (by kernel_rfl) (fun _ _ _ h => h) (by kernel_rfl) (fun X hX => by clear hX; first | rfl | go_simp) hHeld ?_
                  simp only [Act.put, List.setIfInBounds_toArray, List.set_cons_zero, List.set_cons_succ]
                  refine takeH 7 54 (.int .i64 i) rfl rfl (by kernel_rfl) (by kernel_rfl) (by kernel_rfl) (fun _ _ _ h => h) (by kernel_rfl) (fun X hX => by clear hX; first | rfl | go_simp) hHeld ?_
                  simp only [Act.put, List.setIfInBounds_toArray, List.set_cons_zero, List.set_cons_succ]
                  refine takeH 8 55 (.pointer (some (am.add i))) rfl rfl (by kernel_rfl) (by kernel_rfl) (by kernel_rfl) (fun _ _ _ h => h) (by kernel_rfl) (fun X hX => by clear hX; go_simp) hHeld ?_
                  simp only [Act.put, List.setIfInBounds_toArray, List.set_cons_zero, List.set_cons_succ]
                  refine takeH 9 56 (.int .i64 x) rfl rfl (by kernel_rfl) (by kernel_rfl) (by kernel_rfl) (fun _ _ _ h => h) (by kernel_rfl) (fun X hX => by have hc := its_at (Hi.out.below hX (Nat.le_refl _)) hx.out; clear hX; go_simp) hHeld ?_
                  simp only [Act.put, List.setIfInBounds_toArray, List.set_cons_zero, List.set_cons_succ]
                  refine takeH 10 57 (.bool (y == x)) rfl rfl (by kernel_rfl) (by kernel_rfl) (by kernel_rfl) (fun _ _ _ h => h) (by kernel_rfl) (fun X hX => by clear hX; go_simp) hHeld ?_
                  simp only [Act.put, List.setIfInBounds_toArray, List.set_cons_zero, List.set_cons_succ]
                  refine takeH 11 58 (.bool (y == x)) rfl rfl (by kernel_rfl) (by kernel_rfl) (by kernel_rfl) (fun _ _ _ h => h) (by kernel_rfl) (fun X hX => by clear hX; first | rfl | go_simp) hHeld ?_
                  simp only [Act.put, List.setIfInBounds_toArray, List.set_cons_zero, List.set_cons_succ]
                  refine takeH 12 11 (.bool (y == x)) rfl rfl (by kernel_rfl) (by kernel_rfl) (by kernel_rfl) (fun _ _ _ h => h) (by kernel_rfl) (fun X hX => by clear hX; first | rfl | go_simp) hHeld ?_
                  simp only [Act.put, List.setIfInBounds_toArray, List.set_cons_zero, List.set_cons_succ]
                  refine wpAnyH_done (by kernel_rfl) ?_ _
                  go_wp2_with fail
                  exact ⟨⟨k + 1, by go_num, by omega, by rw [Hs.out]; rfl, hid HB2.out.drew⟩, by simp [intOf]; omega⟩
              · obtain rfl : k = op.length := by omega
                have b4 : ¬ ((op.length : Nat) : Int) < op.length := by omega
                cases hat : AT i with
                | true =>
                  rw [hat] at Hsa
                  clear hat
                  go_wp2_with fail
                  exact ⟨⟨i + 1, by go_num, by omega, by rw [Hsa.out]; rfl, HB2⟩, by simp [intOf]; omega⟩
                | false =>
                  rw [hat] at Hsa
                  clear hat
                  go_wp2_with fail
                  exact ⟨⟨i + 1, by go_num, by omega, by rw [Hsa.out]; rfl, HB2⟩, by simp [intOf]; omega⟩
          · obtain rfl : i = ms.length := by omega
            have b4 : ¬ ((ms.length : Nat) : Int) < ms.length := by omega
            have K8 := hid (K7.out.next HB.out)
            obtain ⟨r0, r1, r2, r3⟩ := K8.out.rm (B := P) (r := r) (A := A) (c := c) (by simp)
            obtain ⟨c0, c1, c2, c3⟩ := K8.out.wh (B := D) (x := a2) (by simp)
            rw [HE2.out] at HS
            generalize AT ms.length = aa at *
            go_wp2_with fail
            refine (HS.out _ ((H.out.below K8.out.2 (Nat.le_refl _)).more K8.out.2.size)).mono ?_
            rintro e Y6 ⟨rfl, b5⟩
            have K9 := hid (K8.out.next b5)
            clear r0 r1 r2 r3 c0 c1 c2 c3 b5
            have hq : ((!aa) == (!aa)) = true := by cases aa <;> rfl
            go_wp2_with fail
            refine (HH.out _).mono ?_
            rintro e Y7 ⟨rfl, b6⟩
            go_wp2_with fail
            go_ret
            exact ⟨rfl, (K9.out.next b6).2⟩

/-! ### THE ROW's STEP: WRITTEN OUT: LEAVE IT -/
set_option maxRecDepth 100000 in
theorem lifted (os : Os) (started : os.Started) (H : Type) (enc : TypeId × Value → H) :
    ReturnsInHanded {} Try.checked os 8 .any (Rows.roomOpensSpec.pre6 enc Try.prog Try.f8 Rows.roomOpensRow.domain false) (Rows.roomOpensSpec.post enc Try.prog Try.f8 false true false false) := by
  refine returnsInHanded_of_change (C := Try.checked) own started (by kernel_rfl) Try.func8
    (ChangeSpec.witness6 (enc := enc) (C := Try.checked) false ⟨#[], #[.agg #[.int .i64 0, .int .i64 0, .int .i64 0], .agg #[.string ⟨#[]⟩, .int .i64 0, .int .u16 0, .slice none 0 0], .agg #[.int .u32 0, .int .u8 0, .int .i64 0, .int .i64 0]], []⟩ 8 (by kernel_rfl) (by kernel_rfl) (by kernel_rfl) (by kernel_rfl)) ?_
  intro W base args ds gs before hval0 hW hcnd _
  have hval : ∀ (j : Nat) t v, Try.f8.params[j]? = some t → args[j]? = some v → Value.okWide Try.prog W .any base t v := hval0
  have hW' := hW
  obtain ⟨p, q, hA0, hV, rfl, hfz, hnd⟩ := hW
  have hA : DataW.TrodAll enc Try.prog W 0 (fun _ => true) true Try.f8.params.toList args.toList ds p := hA0
  rw [Try.params8] at hA hval
  obtain ⟨v0, vs0, d0, ds0, p0, q0, hargs, rfl, rfl, h0, r0⟩ := trodAll_cons hA
  obtain ⟨v1, vs1, d1, ds1, p1, q1, rfl, rfl, rfl, h1, r1⟩ := trodAll_cons r0
  obtain ⟨v2, vs2, d2, ds2, p2, q2, rfl, rfl, rfl, h2, r2⟩ := trodAll_cons r1
  obtain ⟨rfl, rfl, rfl⟩ := trodAll_nil r2
  obtain rfl : args = #[v0, v1, v2] := by cases args; simp_all
  obtain ⟨rfl, rfl⟩ := trodVars_none hV
  have k0 := h0
  have lt0 : ∀ x ∈ p0, x.block < W.heap.size := by obtain ⟨m, hm⟩ := k0; exact DataW.trod_lt m _ _ _ hm
  obtain ⟨a0, rfl, w0⟩ := open_gr (hval 0 23 v0 rfl rfl) h0
  have k1 := h1
  have lt1 : ∀ x ∈ p1, x.block < W.heap.size := by obtain ⟨m, hm⟩ := k1; exact DataW.trod_lt m _ _ _ hm
  obtain ⟨a1, rfl, w1⟩ := open_roomA (hval 1 27 v1 rfl rfl) h1
  have k2 := h2
  have lt2 : ∀ x ∈ p2, x.block < W.heap.size := by obtain ⟨m, hm⟩ := k2; exact DataW.trod_lt m _ _ _ hm
  obtain ⟨a2, rfl, w2⟩ := open_wh (hval 2 30 v2 rfl rfl) h2
  clear hA0 hval0
  refine (walk a0 a1 a2 W w0 w1 w2).mono fun e W' ⟨he, bel⟩ => ?_
  subst he
  exact ⟨_, rfl, _, _, _, [], _, [], hW', trodAll_mk1 (shut_bool Try.underlying4 _), (trodAll_cons_mk (Below.trod laidOut (by kernel_rfl) (of_decide_eq_true (by kernel_rfl)) k0 bel lt0) (trodAll_cons_mk (Below.trod laidOut (by kernel_rfl) (of_decide_eq_true (by kernel_rfl)) k1 bel lt1) (trodAll_cons_mk (Below.trod laidOut (by kernel_rfl) (of_decide_eq_true (by kernel_rfl)) k2 bel lt2) trodAll_mk0))), rfl, bel.frame _, fun h => by cases h⟩

theorem over : Rows.roomOpensRow.holds Try.pinned (OpenSpec.ofChange Rows.roomOpensSpec) :=
  OpenClaim.holds_of_wide 8 Try.f8 rfl rfl rfl rfl rfl rfl rfl ⟨rfl, rfl, rfl, rfl, rfl⟩ rfl rfl rfl rfl rfl (by kernel_rfl) Try.func8 (by kernel_rfl)
    (of_decide_eq_true (by kernel_rfl)) (by unfold Func.isWrapper; first | (rw [if_pos (by decide +kernel)]; kernel_rfl) | (rw [if_neg (by decide +kernel)]; exact ⟨rfl, rfl⟩))
    (fun os started H enc _ => lifted os started H enc)

/-- ████ THE STATEMENT ████ -/
theorem proved : Rows.RoomOpensSaid := over
#print axioms proved
end Go.Proofs.Yteldcaebbmaemaa.roomOpens

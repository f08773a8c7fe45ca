/- Proves 'CourseWaysSaid': for every input the Go function CourseWays returns true, and each argument reads afterwards as it read before. Conditions: none beyond the row's own. -/
import Derived.Test.YtgkplcipplpobaaRows
import Derived.WalkKit
import Derived.ProofKit
import Derived.OpenShut
import Derived.ShutString
import Derived.SliceStrings
import Derived.ChangeOld
import Derived.Below
import Derived.Test.YtgkplcipplpobaaCrtM
namespace Go.Proofs.Ytgkplcipplpobaa.courseWays
open Go.ChangeShapes Go.WideShapes Go.ChangeAt Go.RowKit
open Go.ChangeMaps (open_string shut_string)
set_option linter.unusedVariables false

theorem own : ownKnob Try.prog.godebug = none := by kernel_rfl
theorem laidOut : laidOutB Try.prog = true := by kernel_rfl

/-- WHAT THE WALK IS TOLD OF A SLICE OF INTEGERS THAT CAME IN: it is nil; or it leads to a row of 'cap' cells, the numbers 'zs' (the first 'len' are its elements, the rest its spare room), each fitting its kind. -/
def IsRow (k : IntKind) (w : World) (a : Option Addr) (len cap : Nat) (zs : List Int) : Prop :=
  (a = none ∧ len = 0 ∧ cap = 0 ∧ zs = []) ∨
  ∃ x, a = some x ∧ len ≤ cap ∧ cap ≤ maxLen ∧ zs.length = cap ∧ (∀ i, i < zs.length → w.cell? (x.add i) = some (.int k (zs.getD i 0))) ∧ ∀ n ∈ zs, (Lit.int k n).wf = true

/-! ### STEP 1: THE WALK: the Go text returns true, AND WRITES NOTHING THAT WAS THERE: 'Below w.heap.size w w'' (Derived/Below.lean: '.refl', '.alloc', '.drew', '.setCell' at a new block, '.trans'). Open each 'IsRow' by 'rcases' AHEAD of 'go_enter'; part every test ahead of the walk. -/
set_option maxRecDepth 20000 in
set_option maxHeartbeats 16000000 in
theorem walk (a0 : CkA) (a1 : CsA) (w : World) (w0 : CkIn w a0) (w1 : CsIn w a1) :
    Calls Try.prog 7 #[ckA a0, csvA a1] w fun e w' => e = .returned (.bool true) ∧ Below w.heap.size w w' := by
  obtain ⟨l, A0, c0⟩ := a0
  obtain ⟨x, A, c⟩ := a1
  obtain ⟨hw0, hc0, hcm0, _⟩ := w0
  obtain ⟨_, hw, _, hl⟩ := w1
  simp only at hw0 hc0 hcm0 hw hl
  have hlm : l.length ≤ maxLen := Nat.le_trans hc0 hcm0
  show Calls Try.prog 7 #[.slice A0 l.length c0, csv x A c] w (Did (.bool true) w)
  have hwm := hl.1
  unfold maxLen at hwm
  have HF := hid (fun X h => l_lightC x A c hl X h)
  have HH := hid (fun X => heads14 X)
  have HRi := hid (fun X h => p_RightCs (l.length : Int) (by unfold maxLen at hlm; unfold I64; omega) x A c hl X h)
  have HLo := hid (fun X h h2 => p_LoadsC A0 c0 l hlm x A c hl X h h2)
  have HT := hid (fun C e r hrm X h h2 h3 => p_TakesC A0 c0 l hlm x A c hl C e r hrm X h h2 h3)
  have HO := hid (fun B d ls hl C e r hrm X h h2 h3 => l_of A0 c0 l B d ls hl C e r hrm X h h2 h3)
  have HC := hid (fun X h => p_CountC x A c hl X h)
  have HL := hid hl.2
  have Hok := hid (loads_ok l hl)
  have Hfew := hid (loads_few (l := l) (x := x))
  have Hcn := hid (show cntC x ≤ 65536 from cntN_le _ _)
  have Hin := hid (fun r (hr : r ∈ loadsC l x) => show takesC l x r = true ∧ x.ws.any (fun u => ofC l u r) = true by
    refine ⟨(takes_in l x r).2 hr, ?_⟩
    obtain ⟨u, hu, h⟩ := load_way hr
    exact List.any_eq_true.2 ⟨u, hu, h⟩)
  have H0 := hid hw0
  have H1 := hid hw
  clear hw hw0 hl hc0 hcm0
  unfold maxLen at hlm
  obtain ⟨P, W, hP, hW, K1, z0⟩ := (Mem.nil w).one (csc x A c) 24
  clear z0
  obtain ⟨e0, e1⟩ := K1.out.cs (B := P) (x := x) (A := A) (c := c) (t := 24) (by simp)
  generalize loadsC l x = ld at *
  generalize lightC x = f1 at *
  generalize cntC x = cn at *
  go_enter Try.func7, Try.ntmps7
  go_wp2_with fail
  refine (HF.out _ (H1.out.next K1.out.2)).mono ?_
  rintro e Y1 ⟨rfl, b1⟩
  have K2 := hid (K1.out.next b1)
  clear e0 e1 b1 K1
  cases f1 with
  | false =>
    go_wp2_with fail
    refine (HH.out _).mono ?_
    rintro e Y2 ⟨rfl, bz⟩
    go_wp2_with fail
    go_ret
    exact Did.mk rfl (K2.out.next bz).2
  | true =>
    by_cases m40 : (40 : Int) < (l.length : Int)
    · go_wp2_with fail
      refine (HH.out _).mono ?_
      rintro e Y2 ⟨rfl, bz⟩
      go_wp2_with fail
      go_ret
      exact Did.mk rfl (K2.out.next bz).2
    obtain ⟨e0, e1⟩ := K2.out.cs (B := P) (x := x) (A := A) (c := c) (t := 24) (by simp)
    generalize csRight (l.length : Int) x = rr at *
    go_wp2_with fail
    refine (HRi.out _ (H1.out.next K2.out.2)).mono ?_
    rintro e Y2 ⟨rfl, bz⟩
    have K3 := hid (K2.out.next bz)
    clear e0 e1 bz K2 HRi HF
    cases rr with
    | false =>
      go_wp2_with fail
      refine (HH.out _).mono ?_
      rintro e Y3 ⟨rfl, bz⟩
      go_wp2_with fail
      go_ret
      exact Did.mk rfl (K3.out.next bz).2
    | true =>
      obtain ⟨e0, e1⟩ := K3.out.cs (B := P) (x := x) (A := A) (c := c) (t := 24) (by simp)
      go_wp2_with fail
      refine (HLo.out _ ((H0.out.below K3.out.2 (Nat.le_refl _)).more K3.out.2.size) (H1.out.next K3.out.2)).mono ?_
      rintro e V ⟨v1, rfl, ho1, bz⟩
      have K4 := hid (K3.out.next bz)
      obtain ⟨A1, c1, rfl, hr1, _, _⟩ := ho1.rrow
      have HRR := hid hr1
      have hldm := Hok.out.1
      unfold maxLen at hldm
      have HB0 := hid (Below.refl V.heap.size V)
      have hwV := hid K4.out.2.size
      have HPV := hid (K4.out.at_ (b := P) (cs := csc x A c) (t := 24) (by simp)).lt
      clear e0 e1 bz K3 HLo ho1 hr1
      go_wp2_with fail
      go_loopw [6] (fun i wr => ∃ (k : Nat), i = .int .i64 k ∧ k ≤ ld.length ∧ Hid (Mem w wr [(P, csc x A c, 24)]) ∧ Hid (Below V.heap.size V wr)) (fun i _ => ld.length - (intOf i).toNat)
      case atStart => exact ⟨0, rfl, Nat.zero_le _, K4, HB0⟩
      case round =>
        clear K4 HB0
        obtain ⟨k, rfl, hk, K, HB⟩ := hrel
        by_cases hlt : k < ld.length
        · obtain ⟨ad, Ak, ck, r, hA1, hadb, hr, hrl, hcr, hrr, hckr⟩ := HRR.out.get hlt
          have b1 : (0 : Int) ≤ (k : Int) := by omega
          have b2 : (k : Int) < ld.length := by omega
          have hbr : (ad.add k).block < V.heap.size := by rw [add_block]; exact hadb
          have Hcr := hid hcr
          have HIr := hid hrr
          have hrm := (Hok.out.2 r hrl).1
          have HT1 := hid (HT.out Ak ck r hrm)
          have HO1 := hid (fun B d ls hl => HO.out B d ls hl Ak ck r hrm)
          obtain ⟨htk, hfit⟩ := Hin.out r hrl
          rw [htk] at HT1
          obtain ⟨fn, hfn⟩ : ∃ fn : Nat → Bool, (fun j => (x.ws.take j).any (fun u => ofC l u r)) = fn := ⟨_, rfl⟩
          have Hfn := hid (fun j => show (x.ws.take j).any (fun u => ofC l u r) = fn j from congrFun hfn j)
          have Hf0 := hid (show fn 0 = false by rw [← Hfn.out]; simp)
          have Hfe := hid (show fn x.ws.length = true by rw [← Hfn.out, List.take_length]; exact hfit)
          have Hfs := hid (fun j u (hu : x.ws[j]? = some u) => show fn (j + 1) = (fn j || ofC l u r) by rw [← Hfn.out, ← Hfn.out, List.take_add_one, hu, List.any_append]; simp)
          subst hA1
          clear hcr hrr hckr htk hfit hfn Hfn HT HO
          go_wp2_with fail
          go_loopw [7, 8] (fun fv jv wr => ∃ (j : Nat), jv = .int .i64 j ∧ fv = .bool (fn j) ∧ j ≤ x.ws.length ∧ Hid (Mem w wr [(P, csc x A c, 24)]) ∧ Hid (Below V.heap.size V wr)) (fun _ jv _ => x.ws.length - (intOf jv).toNat)
          case atStart => exact ⟨0, rfl, by rw [Hf0.out], Nat.zero_le _, K, HB⟩
          case round =>
            clear K HB
            obtain ⟨j, rfl, rfl, hj, K, HB⟩ := hrel
            obtain ⟨e0, e1⟩ := K.out.cs (B := P) (x := x) (A := A) (c := c) (t := 24) (by simp)
            by_cases hlt2 : j < x.ws.length
            · obtain ⟨aw, Aw, cw, u, hAw, hawb, hu, hul, hcu, hru, hcku⟩ := H1.out.at_ hlt2
              subst hAw
              have b3 : (0 : Int) ≤ (j : Int) := by omega
              have b4 : (j : Int) < x.ws.length := by omega
              have hbu : (aw.add j).block < w.heap.size := by rw [add_block]; exact hawb
              have Hcu := hid hcu
              have HRu := hid hru
              have Hs1 := hid (Hfs.out j u hu.out)
              have HO2 := hid (HO1.out Aw cw u (HL.out u hul))
              generalize ofC l u r = ofv at *
              obtain ⟨fj, hfj⟩ : ∃ fj, fn j = fj := ⟨_, rfl⟩
              rw [hfj] at Hs1 ⊢
              clear hcu hru hcku hfj HO1 Hf0 Hfe Hfs
              cases fj with
              | true =>
                rw [Bool.true_or] at Hs1
                go_wp2_with fail
                clear e0 e1
                refine wp_region_held_drew (S := (fun X => Mem w X [(P, csc x (some aw) c, 24)] ∧ Below V.heap.size V X)) (by kernel_rfl) (And.intro K.out.drew (HB.out.trans (Below.refl _ _).drew)) (fun hHeld => ?_)
                have K2 := hid K.out.drew
                have HB2 := hid (HB.out.trans ((Below.refl V.heap.size _).drew))
                clear K HB
                refine takeH 0 41 (.bool true) rfl rfl (by kernel_rfl) (by kernel_rfl) (by kernel_rfl) (fun _ _ _ h => h) (by kernel_rfl) (fun X hX => by clear hX; first | rfl | go_simp) hHeld ?_
                simp only [Act.put, List.setIfInBounds_toArray, List.set_cons_zero, List.set_cons_succ]
                refine takeH 1 42 (.bool true) rfl rfl (by kernel_rfl) (by kernel_rfl) (by kernel_rfl) (fun _ _ _ h => h) (by kernel_rfl) (fun X hX => by clear hX; first | rfl | go_simp) hHeld ?_
                simp only [Act.put, List.setIfInBounds_toArray, List.set_cons_zero, List.set_cons_succ]
                refine skipH 2 43 rfl rfl (by kernel_rfl) (by kernel_rfl) (by kernel_rfl) (fun _ _ _ h => h) (by kernel_rfl) hHeld ?_
                simp only [Act.put, List.setIfInBounds_toArray, List.set_cons_zero, List.set_cons_succ]
                refine skipH 3 44 rfl rfl (by kernel_rfl) (by kernel_rfl) (by kernel_rfl) (fun _ _ _ h => h) (by kernel_rfl) hHeld ?_
                simp only [Act.put, List.setIfInBounds_toArray, List.set_cons_zero, List.set_cons_succ]
                refine skipH 4 45 rfl rfl (by kernel_rfl) (by kernel_rfl) (by kernel_rfl) (fun _ _ _ h => h) (by kernel_rfl) hHeld ?_
                simp only [Act.put, List.setIfInBounds_toArray, List.set_cons_zero, List.set_cons_succ]
                refine skipH 5 46 rfl rfl (by kernel_rfl) (by kernel_rfl) (by kernel_rfl) (fun _ _ _ h => h) (by kernel_rfl) hHeld ?_
                simp only [Act.put, List.setIfInBounds_toArray, List.set_cons_zero, List.set_cons_succ]
                refine skipH 6 47 rfl rfl (by kernel_rfl) (by kernel_rfl) (by kernel_rfl) (fun _ _ _ h => h) (by kernel_rfl) hHeld ?_
                simp only [Act.put, List.setIfInBounds_toArray, List.set_cons_zero, List.set_cons_succ]
                refine skipH 7 48 rfl rfl (by kernel_rfl) (by kernel_rfl) (by kernel_rfl) (fun _ _ _ h => h) (by kernel_rfl) hHeld ?_
                simp only [Act.put, List.setIfInBounds_toArray, List.set_cons_zero, List.set_cons_succ]
                refine skipH 8 49 rfl rfl (by kernel_rfl) (by kernel_rfl) (by kernel_rfl) (fun _ _ _ h => h) (by kernel_rfl) hHeld ?_
                simp only [Act.put, List.setIfInBounds_toArray, List.set_cons_zero, List.set_cons_succ]
                refine skipH 9 50 rfl rfl (by kernel_rfl) (by kernel_rfl) (by kernel_rfl) (fun _ _ _ h => h) (by kernel_rfl) hHeld ?_
                simp only [Act.put, List.setIfInBounds_toArray, List.set_cons_zero, List.set_cons_succ]
                refine skipH 10 51 rfl rfl (by kernel_rfl) (by kernel_rfl) (by kernel_rfl) (fun _ _ _ h => h) (by kernel_rfl) hHeld ?_
                simp only [Act.put, List.setIfInBounds_toArray, List.set_cons_zero, List.set_cons_succ]
                refine skipH 11 52 rfl rfl (by kernel_rfl) (by kernel_rfl) (by kernel_rfl) (fun _ _ _ h => h) (by kernel_rfl) hHeld ?_
                simp only [Act.put, List.setIfInBounds_toArray, List.set_cons_zero, List.set_cons_succ]
                refine skipH 12 53 rfl rfl (by kernel_rfl) (by kernel_rfl) (by kernel_rfl) (fun _ _ _ h => h) (by kernel_rfl) hHeld ?_
                simp only [Act.put, List.setIfInBounds_toArray, List.set_cons_zero, List.set_cons_succ]
                refine takeH 13 54 (.bool true) rfl rfl (by kernel_rfl) (by kernel_rfl) (by kernel_rfl) (fun _ _ _ h => h) (by kernel_rfl) (fun X hX => by clear hX; first | rfl | go_simp) hHeld ?_
                simp only [Act.put, List.setIfInBounds_toArray, List.set_cons_zero, List.set_cons_succ]
                refine takeH 14 7 (.bool true) rfl rfl (by kernel_rfl) (by kernel_rfl) (by kernel_rfl) (fun _ _ _ h => h) (by kernel_rfl) (fun X hX => by clear hX; first | rfl | go_simp) hHeld ?_
                simp only [Act.put, List.setIfInBounds_toArray, List.set_cons_zero, List.set_cons_succ]
                refine wpAnyH_done (by kernel_rfl) ?_ _
                clear hHeld
                go_wp2_with fail
                exact ⟨⟨j + 1, by go_num, by rw [Hs1.out], by omega, K2, HB2⟩, by simp [intOf]; omega⟩
              | false =>
                rw [Bool.false_or] at Hs1
                go_wp2_with fail
                clear e0 e1
                refine wp_region_held_drew (S := (fun X => Mem w X [(P, csc x (some aw) c, 24)] ∧ Below V.heap.size V X)) (by kernel_rfl) (And.intro K.out.drew (HB.out.trans (Below.refl _ _).drew)) (fun hHeld => ?_)
                have K2 := hid K.out.drew
                have HB2 := hid (HB.out.trans ((Below.refl V.heap.size _).drew))
                clear K HB
                refine takeH 0 41 (.bool false) rfl rfl (by kernel_rfl) (by kernel_rfl) (by kernel_rfl) (fun _ _ _ h => h) (by kernel_rfl) (fun X hX => by clear hX; first | rfl | go_simp) hHeld ?_
                simp only [Act.put, List.setIfInBounds_toArray, List.set_cons_zero, List.set_cons_succ]
                refine takeH 1 42 (.bool false) rfl rfl (by kernel_rfl) (by kernel_rfl) (by kernel_rfl) (fun _ _ _ h => h) (by kernel_rfl) (fun X hX => by clear hX; first | rfl | go_simp) hHeld ?_
                simp only [Act.put, List.setIfInBounds_toArray, List.set_cons_zero, List.set_cons_succ]
                refine takeH 2 43 (.slice A0 l.length c0) rfl rfl (by kernel_rfl) (by kernel_rfl) (by kernel_rfl) (fun _ _ _ h => h) (by kernel_rfl) (fun X hX => by clear hX; first | rfl | go_simp) hHeld ?_
                simp only [Act.put, List.setIfInBounds_toArray, List.set_cons_zero, List.set_cons_succ]
                refine takeH 3 44 (.pointer (some ⟨P, 1, none⟩)) rfl rfl (by kernel_rfl) (by kernel_rfl) (by kernel_rfl) (fun _ _ _ h => h) (by kernel_rfl) (fun X hX => by clear hX; first | rfl | go_simp) hHeld ?_
                simp only [Act.put, List.setIfInBounds_toArray, List.set_cons_zero, List.set_cons_succ]
                refine takeH 4 45 (.slice (some aw) x.ws.length c) rfl rfl (by kernel_rfl) (by kernel_rfl) (by kernel_rfl) (fun _ _ _ h => h) (by kernel_rfl) (fun X hX => by obtain ⟨q0, q1⟩ := hX.1.cs (B := P) (x := x) (A := some aw) (c := c) (t := 24) (by simp); clear hX; go_simp) hHeld ?_
                simp only [Act.put, List.setIfInBounds_toArray, List.set_cons_zero, List.set_cons_succ]
                refine takeH 5 46 (.int .i64 (j : Int)) rfl rfl (by kernel_rfl) (by kernel_rfl) (by kernel_rfl) (fun _ _ _ h => h) (by kernel_rfl) (fun X hX => by clear hX; first | rfl | go_simp) hHeld ?_
                simp only [Act.put, List.setIfInBounds_toArray, List.set_cons_zero, List.set_cons_succ]
                refine takeH 6 47 (.pointer (some (aw.add j))) rfl rfl (by kernel_rfl) (by kernel_rfl) (by kernel_rfl) (fun _ _ _ h => h) (by kernel_rfl) (fun X hX => by clear hX; first | rfl | go_simp) hHeld ?_
                simp only [Act.put, List.setIfInBounds_toArray, List.set_cons_zero, List.set_cons_succ]
                refine takeH 7 48 (.agg #[.slice Aw u.length cw]) rfl rfl (by kernel_rfl) (by kernel_rfl) (by kernel_rfl) (fun _ _ _ h => h) (by kernel_rfl) (fun X hX => by have q := (hX.1.2.cell (p := aw.add j) hbu).trans Hcu.out; clear hX; go_simp) hHeld ?_
                simp only [Act.put, List.setIfInBounds_toArray, List.set_cons_zero, List.set_cons_succ]
                refine takeH 8 49 (.slice (some ad) ld.length c1) rfl rfl (by kernel_rfl) (by kernel_rfl) (by kernel_rfl) (fun _ _ _ h => h) (by kernel_rfl) (fun X hX => by clear hX; first | rfl | go_simp) hHeld ?_
                simp only [Act.put, List.setIfInBounds_toArray, List.set_cons_zero, List.set_cons_succ]
                refine takeH 9 50 (.int .i64 (k : Int)) rfl rfl (by kernel_rfl) (by kernel_rfl) (by kernel_rfl) (fun _ _ _ h => h) (by kernel_rfl) (fun X hX => by clear hX; first | rfl | go_simp) hHeld ?_
                simp only [Act.put, List.setIfInBounds_toArray, List.set_cons_zero, List.set_cons_succ]
                refine takeH 10 51 (.pointer (some (ad.add k))) rfl rfl (by kernel_rfl) (by kernel_rfl) (by kernel_rfl) (fun _ _ _ h => h) (by kernel_rfl) (fun X hX => by clear hX; first | rfl | go_simp) hHeld ?_
                simp only [Act.put, List.setIfInBounds_toArray, List.set_cons_zero, List.set_cons_succ]
                refine takeH 11 52 (.slice Ak r.length ck) rfl rfl (by kernel_rfl) (by kernel_rfl) (by kernel_rfl) (fun _ _ _ h => h) (by kernel_rfl) (fun X hX => by have q := (hX.2.cell (p := ad.add k) hbr).trans Hcr.out; clear hX; go_simp) hHeld ?_
                simp only [Act.put, List.setIfInBounds_toArray, List.set_cons_zero, List.set_cons_succ]
                refine wpAnyH_ready (rs := [12]) (by kernel_rfl) (by simp) ?_
                refine AllReadyH.cons rfl (fun KK hK => ?_) AllReadyH.nil
                simp only [List.getElem_toArray, List.getElem_cons_succ, List.getElem_cons_zero]
                go_simp
                refine (HO2.out _ ((H0.out.below K2.out.2 (Nat.le_refl _)).more K2.out.2.size) ((HRu.out.below K2.out.2 (Nat.le_refl _)).more K2.out.2.size) (HIr.out.next HB2.out).its).mono ?_
                rintro e Y3 ⟨rfl, bz⟩
                have K3 := hid (K2.out.next bz)
                have HB3 := hid (HB2.out.trans (bz.mono HB2.out.size))
                refine hK.out _ _ (And.intro K3.out HB3.out) (fun hHeld => ?_)
                clear hK KK
                try simp only [Act.put, List.setIfInBounds_toArray, List.set_cons_zero, List.set_cons_succ]
                clear bz K2 HB2
                refine takeH 13 54 (.bool ofv) rfl rfl (by kernel_rfl) (by kernel_rfl) (by kernel_rfl) (fun _ _ _ h => h) (by kernel_rfl) (fun X hX => by clear hX; cases ofv <;> go_simp) hHeld ?_
                simp only [Act.put, List.setIfInBounds_toArray, List.set_cons_zero, List.set_cons_succ]
                refine takeH 14 7 (.bool ofv) rfl rfl (by kernel_rfl) (by kernel_rfl) (by kernel_rfl) (fun _ _ _ h => h) (by kernel_rfl) (fun X hX => by clear hX; first | rfl | go_simp) hHeld ?_
                simp only [Act.put, List.setIfInBounds_toArray, List.set_cons_zero, List.set_cons_succ]
                refine wpAnyH_done (by kernel_rfl) ?_ _
                clear hHeld
                go_wp2_with fail
                exact ⟨⟨j + 1, by go_num, by rw [Hs1.out], by omega, K3, HB3⟩, by simp [intOf]; omega⟩
            · have b4 : ¬ (j : Int) < x.ws.length := by omega
              have hjl : j = x.ws.length := by omega
              subst hjl
              have Hfe1 := hid Hfe.out
              obtain ⟨fj, hfj⟩ : ∃ fj, fn x.ws.length = fj := ⟨_, rfl⟩
              rw [hfj] at Hfe1 ⊢
              have hft := Hfe1.out
              subst hft
              clear hfj Hfe1 Hfe Hfs Hf0
              go_wp2_with fail
              clear e0 e1
              refine wp_region_held_drew (S := (fun X => Mem w X [(P, csc x A c, 24)] ∧ Below V.heap.size V X)) (by kernel_rfl) (And.intro K.out.drew (HB.out.trans (Below.refl _ _).drew)) (fun hHeld => ?_)
              have K2 := hid K.out.drew
              have HB2 := hid (HB.out.trans ((Below.refl V.heap.size _).drew))
              clear K HB
              refine takeH 0 55 (.bool true) rfl rfl (by kernel_rfl) (by kernel_rfl) (by kernel_rfl) (fun _ _ _ h => h) (by kernel_rfl) (fun X hX => by clear hX; first | rfl | go_simp) hHeld ?_
              simp only [Act.put, List.setIfInBounds_toArray, List.set_cons_zero, List.set_cons_succ]
              refine takeH 1 56 (.bool false) rfl rfl (by kernel_rfl) (by kernel_rfl) (by kernel_rfl) (fun _ _ _ h => h) (by kernel_rfl) (fun X hX => by clear hX; first | rfl | go_simp) hHeld ?_
              simp only [Act.put, List.setIfInBounds_toArray, List.set_cons_zero, List.set_cons_succ]
              refine takeH 2 57 (.bool false) rfl rfl (by kernel_rfl) (by kernel_rfl) (by kernel_rfl) (fun _ _ _ h => h) (by kernel_rfl) (fun X hX => by clear hX; first | rfl | go_simp) hHeld ?_
              simp only [Act.put, List.setIfInBounds_toArray, List.set_cons_zero, List.set_cons_succ]
              refine takeH 3 58 (.slice A0 l.length c0) rfl rfl (by kernel_rfl) (by kernel_rfl) (by kernel_rfl) (fun _ _ _ h => h) (by kernel_rfl) (fun X hX => by clear hX; first | rfl | go_simp) hHeld ?_
              simp only [Act.put, List.setIfInBounds_toArray, List.set_cons_zero, List.set_cons_succ]
              refine takeH 4 59 (csv x A c) rfl rfl (by kernel_rfl) (by kernel_rfl) (by kernel_rfl) (fun _ _ _ h => h) (by kernel_rfl) (fun X hX => by obtain ⟨q0, q1⟩ := hX.1.cs (B := P) (x := x) (A := A) (c := c) (t := 24) (by simp); clear hX; go_simp) hHeld ?_
              simp only [Act.put, List.setIfInBounds_toArray, List.set_cons_zero, List.set_cons_succ]
              refine takeH 5 60 (.slice (some ad) ld.length c1) rfl rfl (by kernel_rfl) (by kernel_rfl) (by kernel_rfl) (fun _ _ _ h => h) (by kernel_rfl) (fun X hX => by clear hX; first | rfl | go_simp) hHeld ?_
              simp only [Act.put, List.setIfInBounds_toArray, List.set_cons_zero, List.set_cons_succ]
              refine takeH 6 61 (.int .i64 (k : Int)) rfl rfl (by kernel_rfl) (by kernel_rfl) (by kernel_rfl) (fun _ _ _ h => h) (by kernel_rfl) (fun X hX => by clear hX; first | rfl | go_simp) hHeld ?_
              simp only [Act.put, List.setIfInBounds_toArray, List.set_cons_zero, List.set_cons_succ]
              refine takeH 7 62 (.pointer (some (ad.add k))) rfl rfl (by kernel_rfl) (by kernel_rfl) (by kernel_rfl) (fun _ _ _ h => h) (by kernel_rfl) (fun X hX => by clear hX; first | rfl | go_simp) hHeld ?_
              simp only [Act.put, List.setIfInBounds_toArray, List.set_cons_zero, List.set_cons_succ]
              refine takeH 8 63 (.slice Ak r.length ck) rfl rfl (by kernel_rfl) (by kernel_rfl) (by kernel_rfl) (fun _ _ _ h => h) (by kernel_rfl) (fun X hX => by have q := (hX.2.cell (p := ad.add k) hbr).trans Hcr.out; clear hX; go_simp) hHeld ?_
              simp only [Act.put, List.setIfInBounds_toArray, List.set_cons_zero, List.set_cons_succ]
              refine wpAnyH_ready (rs := [9]) (by kernel_rfl) (by simp) ?_
              refine AllReadyH.cons rfl (fun KK hK => ?_) AllReadyH.nil
              simp only [List.getElem_toArray, List.getElem_cons_succ, List.getElem_cons_zero]
              go_simp
              refine (HT1.out _ ((H0.out.below K2.out.2 (Nat.le_refl _)).more K2.out.2.size) (H1.out.next K2.out.2) (HIr.out.next HB2.out).its).mono ?_
              rintro e Y3 ⟨rfl, bz⟩
              have K3 := hid (K2.out.next bz)
              have HB3 := hid (HB2.out.trans (bz.mono HB2.out.size))
              refine hK.out _ _ (And.intro K3.out HB3.out) (fun hHeld => ?_)
              clear hK KK
              try simp only [Act.put, List.setIfInBounds_toArray, List.set_cons_zero, List.set_cons_succ]
              clear bz K2 HB2
              refine takeH 10 65 (.bool false) rfl rfl (by kernel_rfl) (by kernel_rfl) (by kernel_rfl) (fun _ _ _ h => h) (by kernel_rfl) (fun X hX => by clear hX; first | rfl | go_simp) hHeld ?_
              simp only [Act.put, List.setIfInBounds_toArray, List.set_cons_zero, List.set_cons_succ]
              refine takeH 11 66 (.bool false) rfl rfl (by kernel_rfl) (by kernel_rfl) (by kernel_rfl) (fun _ _ _ h => h) (by kernel_rfl) (fun X hX => by clear hX; first | rfl | go_simp) hHeld ?_
              simp only [Act.put, List.setIfInBounds_toArray, List.set_cons_zero, List.set_cons_succ]
              refine wpAnyH_done (by kernel_rfl) ?_ _
              clear hHeld
              go_wp2_with fail
              exact ⟨⟨k + 1, by go_num, by omega, K3, HB3⟩, by simp [intOf]; omega⟩
        · have b2 : ¬ (k : Int) < ld.length := by omega
          obtain ⟨e0, e1⟩ := K.out.cs (B := P) (x := x) (A := A) (c := c) (t := 24) (by simp)
          have m1 : (ld.length : Int) ≤ (cn : Int) := by have := Hfew.out; omega
          clear HT HO Hin HL
          go_wp2_with fail
          refine (HC.out _ (H1.out.next K.out.2)).mono ?_
          rintro e Y3 ⟨rfl, bz⟩
          have K5 := hid (K.out.next bz)
          clear e0 e1 bz K
          go_wp2_with fail
          refine (HH.out _).mono ?_
          rintro e Y4 ⟨rfl, bz⟩
          have K6 := hid (K5.out.next bz)
          clear bz K5
          go_wp2_with fail
          go_ret
          exact Did.mk rfl K6.out.2

/-! ### THE ROW's STEP: WRITTEN OUT: LEAVE IT -/
set_option maxRecDepth 100000 in
theorem lifted (os : Os) (started : os.Started) (H : Type) (enc : TypeId × Value → H) :
    ReturnsInHanded {} Try.checked os 7 .any (Rows.courseWaysSpec.pre6 enc Try.prog Try.f7 Rows.courseWaysRow.domain false) (Rows.courseWaysSpec.post enc Try.prog Try.f7 false true false false) := by
  refine returnsInHanded_of_change (C := Try.checked) own started (by kernel_rfl) Try.func7
    (ChangeSpec.witness6 (enc := enc) (C := Try.checked) false ⟨#[], #[.slice none 0 0, .agg #[.string ⟨#[]⟩, .slice none 0 0]], []⟩ 8 (by kernel_rfl) (by kernel_rfl) (by kernel_rfl) (by kernel_rfl)) ?_
  intro W base args ds gs before hval0 hW hcnd _
  have hval : ∀ (j : Nat) t v, Try.f7.params[j]? = some t → args[j]? = some v → Value.okWide Try.prog W .any base t v := hval0
  have hW' := hW
  obtain ⟨p, q, hA0, hV, rfl, hfz, hnd⟩ := hW
  have hA : DataW.TrodAll enc Try.prog W 0 (fun _ => true) true Try.f7.params.toList args.toList ds p := hA0
  rw [Try.params7] at hA hval
  obtain ⟨v0, vs0, d0, ds0, p0, q0, hargs, rfl, rfl, h0, r0⟩ := trodAll_cons hA
  obtain ⟨v1, vs1, d1, ds1, p1, q1, rfl, rfl, rfl, h1, r1⟩ := trodAll_cons r0
  obtain ⟨rfl, rfl, rfl⟩ := trodAll_nil r1
  obtain rfl : args = #[v0, v1] := by cases args; simp_all
  obtain ⟨rfl, rfl⟩ := trodVars_none hV
  have k0 := h0
  have lt0 : ∀ x ∈ p0, x.block < W.heap.size := by obtain ⟨m, hm⟩ := k0; exact DataW.trod_lt m _ _ _ hm
  obtain ⟨a0, rfl, w0⟩ := open_ckA (hval 0 32 v0 rfl rfl) h0
  have k1 := h1
  have lt1 : ∀ x ∈ p1, x.block < W.heap.size := by obtain ⟨m, hm⟩ := k1; exact DataW.trod_lt m _ _ _ hm
  obtain ⟨a1, rfl, w1⟩ := open_courseA (hval 1 24 v1 rfl rfl) h1
  clear hA0 hval0
  refine (walk a0 a1 W w0 w1).mono fun e W' ⟨he, bel⟩ => ?_
  subst he
  exact ⟨_, rfl, _, _, _, [], _, [], hW', trodAll_mk1 (shut_bool Try.underlying4 _), (trodAll_cons_mk (Below.trod laidOut (by kernel_rfl) (of_decide_eq_true (by kernel_rfl)) k0 bel lt0) (trodAll_cons_mk (Below.trod laidOut (by kernel_rfl) (of_decide_eq_true (by kernel_rfl)) k1 bel lt1) trodAll_mk0)), rfl, bel.frame _, fun h => by cases h⟩

theorem over : Rows.courseWaysRow.holds Try.pinned (OpenSpec.ofChange Rows.courseWaysSpec) :=
  OpenClaim.holds_of_wide 7 Try.f7 rfl rfl rfl rfl rfl rfl rfl ⟨rfl, rfl, rfl, rfl, rfl⟩ rfl rfl rfl rfl rfl (by kernel_rfl) Try.func7 (by kernel_rfl)
    (of_decide_eq_true (by kernel_rfl)) (by unfold Func.isWrapper; first | (rw [if_pos (by decide +kernel)]; kernel_rfl) | (rw [if_neg (by decide +kernel)]; exact ⟨rfl, rfl⟩))
    (fun os started H enc _ => lifted os started H enc)

/-- ████ THE STATEMENT ████ -/
theorem proved : Rows.CourseWaysSaid := over
#print axioms proved
end Go.Proofs.Ytgkplcipplpobaa.courseWays

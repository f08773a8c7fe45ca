/- Proves 'OctetOnceSaid': for every input the Go function OctetOnce returns true, and each argument reads afterwards as it read before. Conditions: none beyond the row's own. -/
import Derived.Test.YtfnllijimmgaoaaRows
import Derived.WalkKit
import Derived.ProofKit
import Derived.OpenShut
import Derived.ShutString
import Derived.SliceStrings
import Derived.ChangeOld
import Derived.Below
import Derived.Test.YtfnllijimmgaoaaOctG
namespace Go.Proofs.Ytfnllijimmgaoaa.octetOnce
open Go.ChangeShapes Go.WideShapes Go.ChangeAt Go.RowKit
open Go.ChangeMaps (open_string shut_string)
set_option linter.unusedVariables false

theorem own : ownKnob Try.prog.godebug = none := by kernel_rfl
theorem laidOut : laidOutB Try.prog = true := by kernel_rfl

/-- WHAT THE WALK IS TOLD OF A SLICE OF INTEGERS THAT CAME IN: it is nil; or it leads to a row of 'cap' cells, the numbers 'zs' (the first 'len' are its elements, the rest its spare room), each fitting its kind. -/
def IsRow (k : IntKind) (w : World) (a : Option Addr) (len cap : Nat) (zs : List Int) : Prop :=
  (a = none ∧ len = 0 ∧ cap = 0 ∧ zs = []) ∨
  ∃ x, a = some x ∧ len ≤ cap ∧ cap ≤ maxLen ∧ zs.length = cap ∧ (∀ i, i < zs.length → w.cell? (x.add i) = some (.int k (zs.getD i 0))) ∧ ∀ n ∈ zs, (Lit.int k n).wf = true

/-! ### STEP 1: THE WALK: the Go text returns true, AND WRITES NOTHING THAT WAS THERE: 'Below w.heap.size w w'' (Derived/Below.lean: '.refl', '.alloc', '.drew', '.setCell' at a new block, '.trans'). Open each 'IsRow' by 'rcases' AHEAD of 'go_enter'; part every test ahead of the walk. -/
set_option maxHeartbeats 400000 in
theorem walk (a0 : Option Addr) (len0 cap0 : Nat) (z0 : List Int) (a1 : Int) (w : World) (w0 : IsRow .u8 w a0 len0 cap0 z0) (w1 : (Lit.int .i64 a1).wf = true) :
    Calls Try.prog 7 #[.slice a0 len0 cap0, .int .i64 a1] w fun e w' => e = .returned (.bool true) ∧ Below w.heap.size w w' := by
  obtain ⟨k1, k2⟩ := bounds_i64 w1
  obtain ⟨b, hl, hbyt, hlc, hcm⟩ := open_byt w0
  have Hs := hid (fun w => p_short a0 none len0 0 cap0 0 ⟨#[]⟩ w)
  by_cases hsn : ¬ len0 ≤ 2000
  · rw [show (decide (len0 ≤ 2000 ∧ (⟨#[]⟩ : ByteArray).size ≤ 1000 ∧ 0 ≤ 300)) = false from decide_eq_false (fun h => hsn h.1)] at Hs
    unfold BoolRet at Hs
    go_enter Try.func7, Try.ntmps7
    go_wp2_with fail
    refine (Hs.out _).mono ?_
    rintro e w' ⟨rfl, rfl⟩
    go_wp2_with fail
    refine (heads _).mono ?_
    rintro e w' ⟨rfl, b⟩
    go_wp2_with fail
    go_ret
    exact ⟨rfl, b⟩
  have hs : len0 ≤ 2000 := by omega
  rw [show (decide (len0 ≤ 2000 ∧ (⟨#[]⟩ : ByteArray).size ≤ 1000 ∧ 0 ≤ 300)) = true from decide_eq_true ⟨hs, by decide, by omega⟩] at Hs
  unfold BoolRet at Hs
  have HB : Hid (∀ w', Below w.heap.size w w' → Byt w' w.heap.size a0 b) := fun w' hb => hbyt.below hb (Nat.le_refl _)
  have Ht := hid (p_Take a0 len0 cap0 b hl hlc (by omega) _ a1 (by unfold Oct.I64; omega) w hbyt)
  unfold TkRet at Ht
  clear hbyt w0
  rcases Oct.tA_cases b a1 with ⟨e1, e2, e3⟩ | e3
  · have hne : ((Oct.tA b a1).2.2 != 0) = true := by rw [bne_iff_ne]; omega
    rw [e1, e2] at Ht
    clear e1 e2 e3
    generalize (Oct.tA b a1).2.2 = q at *
    go_enter Try.func7, Try.ntmps7
    go_wp2_with fail
    refine (Hs.out _).mono ?_
    rintro e w' ⟨rfl, rfl⟩
    go_wp2_with fail
    refine (Ht.out).mono ?_
    rintro e w' ⟨rfl, rfl⟩
    go_wp2_with fail
    refine (heads _).mono ?_
    rintro e w' ⟨rfl, b⟩
    go_wp2_with fail
    go_ret
    exact ⟨rfl, b⟩
  obtain ⟨i1, i2, i3, i4, i5, i6⟩ := Oct.tA_inv b a1 e3
  obtain ⟨k, rfl⟩ := Int.eq_ofNat_of_zero_le i1
  have Hl := hid (fun (w' : World) (h : Byt w' w'.heap.size a0 b) => p_TakeList a0 len0 cap0 b hl hlc (by omega) _ k 2000 (by unfold Oct.I64; omega) (by unfold Oct.I64; omega) w' (Nat.le_refl _) h)
  have hinv := fun h => Oct.tS_inv b k 2000 h
  unfold TsRet at Hl
  rw [e3] at Ht
  generalize (Oct.tA b k).1 = v at *
  generalize (Oct.tA b k).2.1 = y' at *
  obtain ⟨y, rfl⟩ : ∃ y : Nat, y' = y := ⟨y'.toNat, by omega⟩
  rw [Int.toNat_natCast, show ((y : Int) - k).toNat = y - k by omega] at i6
  have Hp := hid (fun w => p_Put v i5 w)
  unfold PutRet at Hp
  rw [i6] at Hp
  have hne : ¬ cap0 = k := by omega
  have Hpart : Hid (∀ (m : Nat), m ≤ len0 → ∀ w', Below w.heap.size w w' → Byt w' w.heap.size (a0.map (fun x => x.add k)) ((b.drop k).take (m - k))) := fun m hm w' hb => by
    have := (HB.out w' hb).part k m cap0 (by omega)
    rwa [if_neg hne, Nat.mul_one] at this
  have Hlen : Hid (∀ m, m ≤ len0 → ((b.drop k).take (m - k)).length = m - k) := fun m hm => by rw [List.length_take, List.length_drop]; omega
  have Sm := hid (fun (A A' : Option Addr) (n c c' : Nat) (l : List UInt8) (hn : l.length = n) (B B' : Nat) (w : World) (h : Byt w B A l) (h' : Byt w B' A' l) => p_Same A A' n n c c' l l hn hn B B' w h h')
  unfold BoolRet at Sm
  simp only [decide_true] at Sm
  have j1 : decide ((k : Int) < 0) = false := decide_eq_false (by omega)
  have j2 : decide ((y : Int) ≤ k) = false := decide_eq_false (by omega)
  have j3 : decide ((len0 : Int) < y) = false := decide_eq_false (by omega)
  have j1a : ¬ (k : Int) < 0 := by omega
  have j2a : ¬ (y : Int) ≤ k := by omega
  have j2b : (k : Int) < y := by omega
  have j3a : ¬ (len0 : Int) < y := by omega
  have j3b : (y : Int) ≤ len0 := by omega
  have n2 : ¬ y ≤ k := by omega
  have n2b : k < y := by omega
  have n2c : decide (y ≤ k) = false := decide_eq_false n2
  have n3 : ¬ len0 < y := by omega
  have n3c : decide (len0 < y) = false := decide_eq_false n3
  have j4 : (0 : Int) ≤ k := by omega
  have j5 : (k : Int) ≤ y := by omega
  have j6 : (y : Int) ≤ cap0 := by omega
  have j7 : y ≤ len0 := by omega
  clear e3 i6
  go_enter Try.func7, Try.ntmps7
  go_wp2_with fail
  refine (Hs.out _).mono ?_
  rintro e w' ⟨rfl, rfl⟩
  go_wp2_with fail
  refine (Ht.out).mono ?_
  rintro e w' ⟨rfl, rfl⟩
  go_wp2_with fail
  go_region_held3 (fun _ => True) (trivial) (first
    | (go_at_call 12; refine (Hp.out _).mono ?_; rintro e w2 ⟨g2, rfl, _, s2, b2⟩; rw [Hlen.out y j7])
    | (go_at_call 21; refine (Sm.out _ _ _ _ _ _ (Hlen.out y j7) _ _ _ s2 (Hpart.out y j7 _ (below2 ((Below.refl _ _).drew) b2))).mono ?_; rintro e w3 ⟨rfl, rfl⟩))
  have bb : Below w.heap.size w w2 := below2 ((Below.refl _ _).drew) b2
  have H2 := hid ((HB.out w2 bb).more bb.size)
  have Hl2 := hid (Hl.out w2 H2.out)
  clear s2
  by_cases hte : (Oct.tS b k 2000).2.2 = 0
  · obtain ⟨q1, q2, q3, q4, q5, q6, q7⟩ := hinv hte
    rw [hte] at Hl2
    clear hinv Hl hte
    generalize (Oct.tS b k 2000).1 = ls at *
    generalize (Oct.tS b k 2000).2.1 = t' at *
    obtain ⟨t, rfl⟩ : ∃ t : Nat, t' = t := ⟨t'.toNat, by omega⟩
    rw [Int.toNat_natCast, show ((t : Int) - k).toNat = t - k by omega] at q7
    have HpL := hid (fun A c (w : World) (h : Its w w.heap.size A ls) => p_PutList A ls.length c ls rfl (by omega) q4 w _ (Nat.le_refl _) h)
    unfold BRet at HpL
    rw [q7] at HpL
    have m2 : decide ((k : Int) < t) = true := decide_eq_true (by omega)
    have m2a : (k : Int) < t := by omega
    have m2b : k < t := by omega
    have m3 : decide ((t : Int) ≤ len0) = true := decide_eq_true (by omega)
    have m3a : (t : Int) ≤ len0 := by omega
    have m3b : t ≤ len0 := by omega
    have m5 : (k : Int) ≤ t := by omega
    have m6 : (t : Int) ≤ cap0 := by omega
    clear q7
    go_wp2_with fail
    refine (Hl2.out).mono ?_
    rintro e w3 ⟨A3, c3, rfl, s3, hc3, b3⟩
    have S3 := hid (show Its w3.drew w3.drew.heap.size A3 ls from s3)
    clear s3
    go_wp2_with fail
    go_region_held3 (fun _ => True) (trivial) (first
      | (go_at_call 21; refine (Sm.out _ _ _ _ _ _ (Hlen.out t m3b) _ _ _ s4 (Hpart.out t m3b _ (below2 (below2 bb b3) (below2 ((Below.refl _ _).drew) b4)))).mono ?_; rintro e w5 ⟨rfl, rfl⟩)
      | (go_at_call 10; refine (heads _).mono ?_; rintro e w6 ⟨rfl, b6⟩)
      | (go_at_call 15; refine (HpL.out _ _ _ S3.out).mono ?_; rintro e w4 ⟨A4, c4, rfl, s4, _, b4⟩; rw [Hlen.out t m3b]))
    all_goals
      go_wp2_with fail
      go_ret
      exact ⟨rfl, below2 (below2 (below2 bb b3) (below2 ((Below.refl _ _).drew) b4)) b6⟩
  · have hr4 := (Oct.tS_err b k 2000).resolve_left hte
    have hbb := bb
    clear hinv Hl hte
    generalize (Oct.tS b k 2000).1 = ls at *
    generalize (Oct.tS b k 2000).2.1 = t' at *
    generalize (Oct.tS b k 2000).2.2 = r at *
    rcases hr4 with rfl | rfl | rfl | rfl
    all_goals
      go_wp2_with fail
      refine (Hl2.out).mono ?_
      rintro e w3 ⟨A3, c3, rfl, _, _, b3⟩
      go_wp2_with fail
      refine wp_region_held_drew (S := fun _ => True) (by kernel_rfl) trivial (fun hHeld => ?_)
      refine takeH 0 63 _ rfl rfl (by kernel_rfl) (by kernel_rfl) (by kernel_rfl) (fun _ _ _ h => h) (by kernel_rfl) (fun _ _ => rfl) trivial ?_
      simp only [Act.put, List.setIfInBounds_toArray, List.set_cons_zero, List.set_cons_succ]
      refine takeH 1 64 (.bool true) rfl rfl (by kernel_rfl) (by kernel_rfl) (by kernel_rfl) (fun _ _ _ h => h) (by kernel_rfl) (fun _ _ => by kernel_rfl) trivial ?_
      simp only [Act.put, List.setIfInBounds_toArray, List.set_cons_zero, List.set_cons_succ]
      refine takeH 2 65 (.bool true) rfl rfl (by kernel_rfl) (by kernel_rfl) (by kernel_rfl) (fun _ _ _ h => h) (by kernel_rfl) (fun _ _ => by kernel_rfl) trivial ?_
      simp only [Act.put, List.setIfInBounds_toArray, List.set_cons_zero, List.set_cons_succ]
      refine skipH 3 66 rfl rfl (by kernel_rfl) (by kernel_rfl) (by kernel_rfl) (fun _ _ _ h => h) (by kernel_rfl) trivial ?_
      simp only [Act.put, List.setIfInBounds_toArray, List.set_cons_zero, List.set_cons_succ]
      refine skipH 4 67 rfl rfl (by kernel_rfl) (by kernel_rfl) (by kernel_rfl) (fun _ _ _ h => h) (by kernel_rfl) trivial ?_
      simp only [Act.put, List.setIfInBounds_toArray, List.set_cons_zero, List.set_cons_succ]
      refine skipH 5 68 rfl rfl (by kernel_rfl) (by kernel_rfl) (by kernel_rfl) (fun _ _ _ h => h) (by kernel_rfl) trivial ?_
      simp only [Act.put, List.setIfInBounds_toArray, List.set_cons_zero, List.set_cons_succ]
      refine skipH 6 69 rfl rfl (by kernel_rfl) (by kernel_rfl) (by kernel_rfl) (fun _ _ _ h => h) (by kernel_rfl) trivial ?_
      simp only [Act.put, List.setIfInBounds_toArray, List.set_cons_zero, List.set_cons_succ]
      refine skipH 7 70 rfl rfl (by kernel_rfl) (by kernel_rfl) (by kernel_rfl) (fun _ _ _ h => h) (by kernel_rfl) trivial ?_
      simp only [Act.put, List.setIfInBounds_toArray, List.set_cons_zero, List.set_cons_succ]
      refine skipH 8 71 rfl rfl (by kernel_rfl) (by kernel_rfl) (by kernel_rfl) (fun _ _ _ h => h) (by kernel_rfl) trivial ?_
      simp only [Act.put, List.setIfInBounds_toArray, List.set_cons_zero, List.set_cons_succ]
      refine skipH 9 72 rfl rfl (by kernel_rfl) (by kernel_rfl) (by kernel_rfl) (fun _ _ _ h => h) (by kernel_rfl) trivial ?_
      simp only [Act.put, List.setIfInBounds_toArray, List.set_cons_zero, List.set_cons_succ]
      refine skipH 10 73 rfl rfl (by kernel_rfl) (by kernel_rfl) (by kernel_rfl) (fun _ _ _ h => h) (by kernel_rfl) trivial ?_
      simp only [Act.put, List.setIfInBounds_toArray, List.set_cons_zero, List.set_cons_succ]
      refine skipH 11 74 rfl rfl (by kernel_rfl) (by kernel_rfl) (by kernel_rfl) (fun _ _ _ h => h) (by kernel_rfl) trivial ?_
      simp only [Act.put, List.setIfInBounds_toArray, List.set_cons_zero, List.set_cons_succ]
      refine skipH 12 75 rfl rfl (by kernel_rfl) (by kernel_rfl) (by kernel_rfl) (fun _ _ _ h => h) (by kernel_rfl) trivial ?_
      simp only [Act.put, List.setIfInBounds_toArray, List.set_cons_zero, List.set_cons_succ]
      refine skipH 13 76 rfl rfl (by kernel_rfl) (by kernel_rfl) (by kernel_rfl) (fun _ _ _ h => h) (by kernel_rfl) trivial ?_
      simp only [Act.put, List.setIfInBounds_toArray, List.set_cons_zero, List.set_cons_succ]
      refine skipH 14 77 rfl rfl (by kernel_rfl) (by kernel_rfl) (by kernel_rfl) (fun _ _ _ h => h) (by kernel_rfl) trivial ?_
      simp only [Act.put, List.setIfInBounds_toArray, List.set_cons_zero, List.set_cons_succ]
      refine skipH 15 78 rfl rfl (by kernel_rfl) (by kernel_rfl) (by kernel_rfl) (fun _ _ _ h => h) (by kernel_rfl) trivial ?_
      simp only [Act.put, List.setIfInBounds_toArray, List.set_cons_zero, List.set_cons_succ]
      refine skipH 16 79 rfl rfl (by kernel_rfl) (by kernel_rfl) (by kernel_rfl) (fun _ _ _ h => h) (by kernel_rfl) trivial ?_
      simp only [Act.put, List.setIfInBounds_toArray, List.set_cons_zero, List.set_cons_succ]
      refine skipH 17 80 rfl rfl (by kernel_rfl) (by kernel_rfl) (by kernel_rfl) (fun _ _ _ h => h) (by kernel_rfl) trivial ?_
      simp only [Act.put, List.setIfInBounds_toArray, List.set_cons_zero, List.set_cons_succ]
      refine skipH 18 81 rfl rfl (by kernel_rfl) (by kernel_rfl) (by kernel_rfl) (fun _ _ _ h => h) (by kernel_rfl) trivial ?_
      simp only [Act.put, List.setIfInBounds_toArray, List.set_cons_zero, List.set_cons_succ]
      refine skipH 19 82 rfl rfl (by kernel_rfl) (by kernel_rfl) (by kernel_rfl) (fun _ _ _ h => h) (by kernel_rfl) trivial ?_
      simp only [Act.put, List.setIfInBounds_toArray, List.set_cons_zero, List.set_cons_succ]
      refine skipH 20 83 rfl rfl (by kernel_rfl) (by kernel_rfl) (by kernel_rfl) (fun _ _ _ h => h) (by kernel_rfl) trivial ?_
      simp only [Act.put, List.setIfInBounds_toArray, List.set_cons_zero, List.set_cons_succ]
      refine takeH 21 84 (.bool true) rfl rfl (by kernel_rfl) (by kernel_rfl) (by kernel_rfl) (fun _ _ _ h => h) (by kernel_rfl) (fun _ _ => by kernel_rfl) trivial ?_
      simp only [Act.put, List.setIfInBounds_toArray, List.set_cons_zero, List.set_cons_succ]
      refine takeH 22 85 (.bool true) rfl rfl (by kernel_rfl) (by kernel_rfl) (by kernel_rfl) (fun _ _ _ h => h) (by kernel_rfl) (fun _ _ => by kernel_rfl) trivial ?_
      simp only [Act.put, List.setIfInBounds_toArray, List.set_cons_zero, List.set_cons_succ]
      refine wpAnyH_ready (rs := [23]) (by kernel_rfl) (by simp) ?_
      refine AllReadyH.cons (o := { dst := some 86, op := .call { callee := .value (.func 10), args := #[], argTypes := #[] }, type := 4, pos := "law.go:86", after := #[{ on := 22, ground := .chain }, { on := 22, ground := .guard }], guard := some (22, true) }) rfl (fun K hK => ?_) AllReadyH.nil
      go_simp
      refine (heads _).mono ?_
      rintro e w6 ⟨rfl, b6⟩
      refine hK.out _ _ trivial (fun hHeld => ?_)
      clear hK K
      try simp only [Act.put, List.setIfInBounds_toArray, List.set_cons_zero, List.set_cons_succ]
      refine takeH 24 87 (.bool true) rfl rfl (by kernel_rfl) (by kernel_rfl) (by kernel_rfl) (fun _ _ _ h => h) (by kernel_rfl) (fun _ _ => by kernel_rfl) trivial ?_
      simp only [Act.put, List.setIfInBounds_toArray, List.set_cons_zero, List.set_cons_succ]
      refine takeH 25 4 (.bool true) rfl rfl (by kernel_rfl) (by kernel_rfl) (by kernel_rfl) (fun _ _ _ h => h) (by kernel_rfl) (fun _ _ => by kernel_rfl) trivial ?_
      simp only [Act.put, List.setIfInBounds_toArray, List.set_cons_zero, List.set_cons_succ]
      refine wpAnyH_done (by kernel_rfl) ?_ _
      go_wp2_with fail
      go_ret
      exact ⟨rfl, below2 (below2 bb b3) (below2 ((Below.refl _ _).drew) b6)⟩

/-! ### THE ROW's STEP: WRITTEN OUT: LEAVE IT -/
set_option maxRecDepth 100000 in
theorem lifted (os : Os) (started : os.Started) (H : Type) (enc : TypeId × Value → H) :
    ReturnsInHanded {} Try.checked os 7 .any (Rows.octetOnceSpec.pre6 enc Try.prog Try.f7 Rows.octetOnceRow.domain false) (Rows.octetOnceSpec.post enc Try.prog Try.f7 false true false false) := by
  refine returnsInHanded_of_change (C := Try.checked) own started (by kernel_rfl) Try.func7
    (ChangeSpec.witness6 (enc := enc) (C := Try.checked) false ⟨#[], #[.slice none 0 0, .int .i64 0], []⟩ 8 (by kernel_rfl) (by kernel_rfl) (by kernel_rfl) (by kernel_rfl)) ?_
  intro W base args ds gs before hval0 hW hcnd _
  have hval : ∀ (j : Nat) t v, Try.f7.params[j]? = some t → args[j]? = some v → Value.okWide Try.prog W .any base t v := hval0
  have hW' := hW
  obtain ⟨p, q, hA0, hV, rfl, hfz, hnd⟩ := hW
  have hA : DataW.TrodAll enc Try.prog W 0 (fun _ => true) true Try.f7.params.toList args.toList ds p := hA0
  rw [Try.params7] at hA hval
  obtain ⟨v0, vs0, d0, ds0, p0, q0, hargs, rfl, rfl, h0, r0⟩ := trodAll_cons hA
  obtain ⟨v1, vs1, d1, ds1, p1, q1, rfl, rfl, rfl, h1, r1⟩ := trodAll_cons r0
  obtain ⟨rfl, rfl, rfl⟩ := trodAll_nil r1
  obtain rfl : args = #[v0, v1] := by cases args; simp_all
  obtain ⟨rfl, rfl⟩ := trodVars_none hV
  obtain ⟨a0, len0, cap0, rfl⟩ := okWide_slice Try.underlying24 (hval 0 24 v0 rfl rfl)
  have k0 := h0
  have lt0 : ∀ x ∈ p0, x.block < W.heap.size := by obtain ⟨m, hm⟩ := k0; exact DataW.trod_lt m _ _ _ hm
  obtain ⟨z0, w0⟩ : ∃ zs, IsRow .u8 W a0 len0 cap0 zs := by
    obtain ⟨fuel, hf⟩ := h0
    rcases open_ints Try.underlying24 Try.underlying5 (by kernel_rfl) hf with ⟨hcs, _⟩ | ⟨x, l, c, zs, hcs, _, hl, hm, hz, _, hcell, hwz⟩
    · simp [Value.cells] at hcs
      obtain ⟨rfl, rfl, rfl⟩ := hcs
      exact ⟨[], .inl ⟨rfl, rfl, rfl, rfl⟩⟩
    · simp [Value.cells] at hcs
      obtain ⟨rfl, rfl, rfl⟩ := hcs
      exact ⟨zs, .inr ⟨_, rfl, hl, hm, by simpa using hz, hcell, hwz⟩⟩
  obtain ⟨a1, rfl, rfl, rfl, w1⟩ := open_int Try.underlying3 (hval 1 3 v1 rfl rfl) h1
  clear hA0 hval0
  refine (walk a0 len0 cap0 z0 a1 W w0 w1).mono fun e W' ⟨he, bel⟩ => ?_
  subst he
  exact ⟨_, rfl, _, _, _, [], _, [], hW', trodAll_mk1 (shut_bool Try.underlying4 _), (trodAll_cons_mk (Below.trod laidOut (by kernel_rfl) (of_decide_eq_true (by kernel_rfl)) k0 bel lt0) (trodAll_cons_mk (shut_int Try.underlying3 w1) trodAll_mk0)), rfl, bel.frame _, fun h => by cases h⟩

theorem over : Rows.octetOnceRow.holds Try.pinned (OpenSpec.ofChange Rows.octetOnceSpec) :=
  OpenClaim.holds_of_wide 7 Try.f7 rfl rfl rfl rfl rfl rfl rfl ⟨rfl, rfl, rfl, rfl, rfl⟩ rfl rfl rfl rfl rfl (by kernel_rfl) Try.func7 (by kernel_rfl)
    (of_decide_eq_true (by kernel_rfl)) (by unfold Func.isWrapper; first | (rw [if_pos (by decide +kernel)]; kernel_rfl) | (rw [if_neg (by decide +kernel)]; exact ⟨rfl, rfl⟩))
    (fun os started H enc _ => lifted os started H enc)

/-- ████ THE STATEMENT ████ -/
theorem proved : Rows.OctetOnceSaid := over
#print axioms proved
end Go.Proofs.Ytfnllijimmgaoaa.octetOnce

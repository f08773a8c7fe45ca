/- Proves 'WordPartsSaid': for every input the Go function WordParts returns true, and each argument reads afterwards as it read before. Conditions: none beyond the row's own. -/
import Derived.Test.YtikgaknmmbmnoaaRows
import Derived.WalkKit
import Derived.ProofKit
import Derived.OpenShut
import Derived.ShutString
import Derived.SliceStrings
import Derived.ChangeOld
import Derived.Below
import Derived.Test.YtikgaknmmbmnoaaWrdW
namespace Go.Proofs.Ytikgaknmmbmnoaa.wordParts
open Go.ChangeShapes Go.WideShapes Go.ChangeAt Go.RowKit
open Go.ChangeMaps (open_string shut_string)
set_option linter.unusedVariables false

theorem own : ownKnob Try.prog.godebug = none := by kernel_rfl
theorem laidOut : laidOutB Try.prog = true := by kernel_rfl

/-- WHAT THE WALK IS TOLD OF A SLICE OF INTEGERS THAT CAME IN: it is nil; or it leads to a row of 'cap' cells, the numbers 'zs' (the first 'len' are its elements, the rest its spare room), each fitting its kind. -/
def IsRow (k : IntKind) (w : World) (a : Option Addr) (len cap : Nat) (zs : List Int) : Prop :=
  (a = none ∧ len = 0 ∧ cap = 0 ∧ zs = []) ∨
  ∃ x, a = some x ∧ len ≤ cap ∧ cap ≤ maxLen ∧ zs.length = cap ∧ (∀ i, i < zs.length → w.cell? (x.add i) = some (.int k (zs.getD i 0))) ∧ ∀ n ∈ zs, (Lit.int k n).wf = true

theorem first_bad (ps : List (List UInt8)) (h : ps.all Wrd.ok = false) : ∃ k, ∃ hk : k < ps.length, (ps.take k).all Wrd.ok = true ∧ Wrd.ok ps[k] = false := by
  induction ps with
  | nil => cases h
  | cons p r ih =>
    by_cases hp : Wrd.ok p = true
    · rw [List.all_cons, hp, Bool.true_and] at h
      obtain ⟨k, hk, h1, h2⟩ := ih h
      exact ⟨k + 1, by simp; exact hk, by rw [List.take_succ_cons, List.all_cons, hp, h1]; rfl, by simpa using h2⟩
    · exact ⟨0, by simp, rfl, by simpa using hp⟩
theorem ok_some {p : List UInt8} (h : Wrd.ok p = true) : ∃ t, Wrd.uq p = some t ∧ p ≠ [] ∧ Wrd.tx p = t := by
  unfold Wrd.ok at h
  cases hu : Wrd.uq p with
  | none => rw [hu] at h; cases h
  | some t => exact ⟨t, rfl, (by intro e; rw [e] at hu; cases hu), by unfold Wrd.tx; rw [hu]; rfl⟩
theorem ok_none {p : List UInt8} (h : Wrd.ok p = false) : Wrd.uq p = none := by
  unfold Wrd.ok at h
  cases hu : Wrd.uq p with
  | none => rfl
  | some t => rw [hu] at h; cases h
theorem all_at {ps : List (List UInt8)} {k : Nat} (h : (ps.take k).all Wrd.ok = true) {j : Nat} (hj : j < ps.length) (hjk : j < k) : Wrd.ok ps[j] = true := by
  refine List.all_eq_true.1 h _ (List.mem_iff_getElem?.2 ⟨j, ?_⟩)
  rw [List.getElem?_take, if_pos hjk, List.getElem?_eq_getElem hj]

/-! ### STEP 1: THE WALK: the Go text returns true, AND WRITES NOTHING THAT WAS THERE: 'Below w.heap.size w w'' (Derived/Below.lean: '.refl', '.alloc', '.drew', '.setCell' at a new block, '.trans'). Open each 'IsRow' by 'rcases' AHEAD of 'go_enter'; part every test ahead of the walk. -/
theorem walk (a0 : ByteArray) (w : World) (w0 : a0.size ≤ maxLen) :
    Calls Try.prog 7 #[.string a0] w fun e w' => e = .returned (.bool true) ∧ Below w.heap.size w w' := by
  by_cases h0 : 2000 < a0.size
  · have f0 : (2000 : Int) < a0.size := by omega
    go_enter Try.func7, Try.ntmps7
    go_wp2_with fail
    refine (heads _).mono ?_
    rintro e w' ⟨rfl, b⟩
    go_wp2_with fail
    go_ret
    exact ⟨rfl, b⟩
  · have f0 : ¬ (2000 : Int) < a0.size := by omega
    by_cases h1 : a0 = ⟨#[]⟩
    · subst h1
      go_enter Try.func7, Try.ntmps7
      go_wp2_with fail
      refine (heads _).mono ?_
      rintro e w' ⟨rfl, b⟩
      go_wp2_with fail
      go_ret
      exact ⟨rfl, b⟩
    · have hne : a0.data.toList ≠ [] := fun e => h1 (by rw [← of_bs a0, e]; rfl)
      have e0 : ¬ a0.toList = [] := by rw [list_of]; exact hne
      have e0' : a0.toList.isEmpty = false := by rw [List.isEmpty_eq_false_iff]; exact e0
      have Hc := hid (fun w => r_Cut a0 32 (by omega) w)
      have Hp := hid (fun w => p_Split a0 (by omega) w)
      unfold RowRet at Hc
      unfold SplRet at Hp
      have hcl := Wrd.cut_len 32 a0.data.toList
      rw [data_len] at hcl
      have Hpl := hid (fun p hp => Wrd.cut_part_len 32 a0.data.toList p hp)
      have hlen := data_len a0
      have Hlen := hid hlen
      have hstop := Wrd.spl_stop a0.data.toList hne
      have hall := Wrd.spl_all a0.data.toList hne
      generalize Wrd.cut 32 a0.data.toList = ps at *
      have hu : ∀ (k : Nat) (hk : k < ps.length) (w : World), Calls Try.prog 10 #[txt ps[k]] w (UqRet ps[k] w) := fun k hk w => by
        have := Hpl.out ps[k] (List.getElem_mem _)
        rw [Hlen.out] at this
        exact p_Unquote (bs ps[k]) (by rw [bs_size]; omega) w
      have Hu := hid hu
      clear h1 hne hlen hu
      cases ha : ps.all Wrd.ok with
      | true =>
        rw [hall ha] at Hp
        simp only [] at Hp
        have Hok := hid (show (ps.take ps.length).all Wrd.ok = true by rw [List.take_length]; exact ha)
        clear ha hall hstop
        go_enter Try.func7, Try.ntmps7
        go_wp2_with fail
        refine (Hc.out _).mono ?_
        rintro e w1 ⟨A1, c1, rfl, s1, b1⟩
        have S1 := hid s1
        clear s1
        go_wp2_with fail
        refine (Hp.out _).mono ?_
        rintro e w2 ⟨A2, c2, rfl, s2, b2⟩
        have S2 := hid s2
        clear s2
        go_wp2_with fail
        go_loopw [7] (fun i wr => ∃ k : Nat, i = .int .i64 k ∧ k ≤ ps.length ∧ Below w2.heap.size w2 wr) (fun i _ => ps.length - (intOf i).toNat)
        case atStart => exact ⟨0, rfl, Nat.zero_le _, Below.refl _ _⟩
        case round =>
          obtain ⟨k, rfl, hk, hb⟩ := hrel
          by_cases hlt : k < ps.length
          · have hlt2 : k < (ps.map Wrd.tx).length := by rw [List.length_map]; exact hlt
            obtain ⟨t, hut, hpne, htx⟩ := ok_some (all_at Hok.out hlt hlt)
            obtain ⟨ad, rfl, _, hc⟩ := (S1.out.below (below2 b2 hb) (Nat.le_refl _)).at_ hlt
            have Huk := hid (Hu.out k hlt)
            unfold UqRet at Huk
            rw [hut, show cod (some t) = 0 from rfl, show (some t).getD [] = t from rfl] at Huk
            have g1 : ¬ (bs ps[k]).toList = [] := by rw [list_of, bs_data]; exact hpne
            have g2 : (bs ps[k]).toList.isEmpty = false := by rw [List.isEmpty_eq_false_iff]; exact g1
            have g3 : ¬ (ps.length : Int) ≤ (k : Int) := by omega
            have Htx := hid htx
            clear hut hpne htx
            go_wp2_with fail
            refine (Huk.out _).mono ?_
            rintro e w3 ⟨rfl, b3⟩
            obtain ⟨ad2, he2, _, hc2⟩ := (S1.out.below (below3 b2 hb b3) (Nat.le_refl _)).at_ hlt
            obtain rfl : ad = ad2 := by injection he2
            obtain ⟨ad3, rfl, _, hc3⟩ := (S2.out.below (below2 hb b3) (Nat.le_refl _)).at_ hlt2
            rw [List.getElem_map, Htx.out] at hc3
            clear he2
            go_wp2_with fail
            go_round
            case rel => exact ⟨k + 1, by go_num, by omega, below2 hb b3⟩
            case measure => simp [intOf]; omega
          · go_wp2_with fail
            refine (heads _).mono ?_
            rintro e w3 ⟨rfl, b3⟩
            go_wp2_with fail
            go_ret
            exact ⟨rfl, below4 b1 b2 hb b3⟩
      | false =>
        obtain ⟨n, hn, ht, hbad⟩ := first_bad ps ha
        have hs := hstop (ps.take n) (ps.drop (n + 1)) ps[n] (by rw [← List.drop_eq_getElem_cons hn, List.take_append_drop]) ht hbad
        rw [hs, List.length_take, Nat.min_eq_left (by omega)] at Hp
        simp only [] at Hp
        have Hok := hid ht
        have Hbad := hid (ok_none hbad)
        clear ha hall hstop hs ht hbad
        go_enter Try.func7, Try.ntmps7
        go_wp2_with fail
        refine (Hc.out _).mono ?_
        rintro e w1 ⟨A1, c1, rfl, s1, b1⟩
        have S1 := hid s1
        clear s1
        go_wp2_with fail
        refine (Hp.out _).mono ?_
        rintro e w2 ⟨A2, c2, rfl, s2, b2⟩
        clear s2
        go_wp2_with fail
        go_loopw [7] (fun i wr => ∃ k : Nat, i = .int .i64 k ∧ k ≤ n ∧ Below w2.heap.size w2 wr) (fun i _ => ps.length - (intOf i).toNat)
        case atStart => exact ⟨0, rfl, Nat.zero_le _, Below.refl _ _⟩
        case round =>
          obtain ⟨k, rfl, hk, hb⟩ := hrel
          have hlt : k < ps.length := by omega
          obtain ⟨ad, rfl, _, hc⟩ := (S1.out.below (below2 b2 hb) (Nat.le_refl _)).at_ hlt
          have Huk := hid (Hu.out k hlt)
          unfold UqRet at Huk
          by_cases hkn : k < n
          · obtain ⟨t, hut, hpne, htx⟩ := ok_some (all_at Hok.out hlt hkn)
            rw [hut, show cod (some t) = 0 from rfl, show (some t).getD [] = t from rfl] at Huk
            have g1 : ¬ (bs ps[k]).toList = [] := by rw [list_of, bs_data]; exact hpne
            have g2 : (bs ps[k]).toList.isEmpty = false := by rw [List.isEmpty_eq_false_iff]; exact g1
            clear hut hpne htx
            go_wp2_with fail
            refine (Huk.out _).mono ?_
            rintro e w3 ⟨rfl, b3⟩
            obtain ⟨ad2, he2, _, hc2⟩ := (S1.out.below (below3 b2 hb b3) (Nat.le_refl _)).at_ hlt
            obtain rfl : ad = ad2 := by injection he2
            clear he2
            go_wp2_with fail
            go_round
            case rel => exact ⟨k + 1, by go_num, by omega, below2 hb b3⟩
            case measure => simp [intOf]; omega
          · obtain rfl : k = n := by omega
            rw [Hbad.out, show cod none = 3 from rfl] at Huk
            go_wp2_with fail
            refine (Huk.out _).mono ?_
            rintro e w3 ⟨rfl, b3⟩
            go_wp2_with fail
            refine (heads _).mono ?_
            rintro e w4 ⟨rfl, b4⟩
            go_wp2_with fail
            go_ret
            exact ⟨rfl, below5 b1 b2 hb b3 b4⟩

/-! ### THE ROW's STEP: WRITTEN OUT: LEAVE IT -/
set_option maxRecDepth 100000 in
theorem lifted (os : Os) (started : os.Started) (H : Type) (enc : TypeId × Value → H) :
    ReturnsInHanded {} Try.checked os 7 .any (Rows.wordPartsSpec.pre6 enc Try.prog Try.f7 Rows.wordPartsRow.domain false) (Rows.wordPartsSpec.post enc Try.prog Try.f7 false true false false) := by
  refine returnsInHanded_of_change (C := Try.checked) own started (by kernel_rfl) Try.func7
    (ChangeSpec.witness6 (enc := enc) (C := Try.checked) false ⟨#[], #[.string ByteArray.empty], []⟩ 8 (by kernel_rfl) (by kernel_rfl) (by kernel_rfl) (by kernel_rfl)) ?_
  intro W base args ds gs before hval0 hW hcnd _
  have hval : ∀ (j : Nat) t v, Try.f7.params[j]? = some t → args[j]? = some v → Value.okWide Try.prog W .any base t v := hval0
  have hW' := hW
  obtain ⟨p, q, hA0, hV, rfl, hfz, hnd⟩ := hW
  have hA : DataW.TrodAll enc Try.prog W 0 (fun _ => true) true Try.f7.params.toList args.toList ds p := hA0
  rw [Try.params7] at hA hval
  obtain ⟨v0, vs0, d0, ds0, p0, q0, hargs, rfl, rfl, h0, r0⟩ := trodAll_cons hA
  obtain ⟨rfl, rfl, rfl⟩ := trodAll_nil r0
  obtain rfl : args = #[v0] := by cases args; simp_all
  obtain ⟨rfl, rfl⟩ := trodVars_none hV
  obtain ⟨a0, rfl, rfl, rfl, w0⟩ := open_string Try.underlying9 (hval 0 9 v0 rfl rfl) h0
  clear hA0 hval0
  refine (walk a0 W w0).mono fun e W' ⟨he, bel⟩ => ?_
  subst he
  exact ⟨_, rfl, _, _, _, [], _, [], hW', trodAll_mk1 (shut_bool Try.underlying4 _), (trodAll_cons_mk (shut_string Try.underlying9 w0) trodAll_mk0), rfl, bel.frame _, fun h => by cases h⟩

theorem over : Rows.wordPartsRow.holds Try.pinned (OpenSpec.ofChange Rows.wordPartsSpec) :=
  OpenClaim.holds_of_wide 7 Try.f7 rfl rfl rfl rfl rfl rfl rfl ⟨rfl, rfl, rfl, rfl, rfl⟩ rfl rfl rfl rfl rfl (by kernel_rfl) Try.func7 (by kernel_rfl)
    (of_decide_eq_true (by kernel_rfl)) (by unfold Func.isWrapper; first | (rw [if_pos (by decide +kernel)]; kernel_rfl) | (rw [if_neg (by decide +kernel)]; exact ⟨rfl, rfl⟩))
    (fun os started H enc _ => lifted os started H enc)

/-- ████ THE STATEMENT ████ -/
theorem proved : Rows.WordPartsSaid := over
#print axioms proved
end Go.Proofs.Ytikgaknmmbmnoaa.wordParts

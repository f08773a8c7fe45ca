/- Contracts of layer 1 (digits): what Parse and Within return, for every text. -/
import Derived.Test.YtaiohmodhngpbaaDigB
namespace Go.Proofs.Ytaiohmodhngpbaa
open Go.RowKit

theorem pre_45 (a : UInt8) (r : List UInt8) : [45].isPrefixOf (a :: r) = decide (a = 45) := by
  by_cases h : a = 45
  · subst h; rfl
  · have h' : ((45 : UInt8) == a) = false := by rw [beq_eq_false_iff_ne]; exact fun e => h e.symm
    rw [decide_eq_false h, List.isPrefixOf, h']; rfl
theorem cut_below (l : List UInt8) : Lib.hasPrefix l [45] = Dig.below l := by
  unfold Lib.hasPrefix Dig.below
  cases l with
  | nil => rfl
  | cons a r => rw [pre_45]; simp
theorem cut_rest (l : List UInt8) : Lib.trimPrefix l [45] = Dig.rest l := by
  unfold Lib.trimPrefix Dig.rest
  rw [cut_below]
  cases l with
  | nil => rfl
  | cons a r => simp

theorem d_cut (s : ByteArray) (w : World) :
    Calls Try.prog 24 #[.string s, .string ⟨#[45]⟩] w fun e w' => e = .returned (.tuple #[txt (Dig.rest s.data.toList), .bool (Dig.below s.data.toList)]) ∧ w = w' := by
  refine (Try.strings_CutPrefix s ⟨#[45]⟩ w).mono ?_
  rintro e w' ⟨rfl, rfl⟩
  refine ⟨?_, rfl⟩
  show Ending.returned (.tuple #[txt (Lib.trimPrefix s.data.toList [45]), .bool (Lib.hasPrefix s.data.toList [45])]) = _
  rw [cut_rest, cut_below]

theorem rest_size (s : ByteArray) : (bs (Dig.rest s.data.toList)).size ≤ s.size := by
  rw [bs_size, ← data_len]
  unfold Dig.rest; split <;> simp

theorem d_Parse (s : ByteArray) (hs : s.size ≤ maxLen) (w : World) :
    Calls Try.prog 9 #[.string s] w fun e w' => e = .returned (.tuple #[.int .i64 (Dig.pa s.data.toList).1, .int .i64 ((Dig.pa s.data.toList).2 : Int)]) ∧ w = w' := by
  have hr : (bs (Dig.rest s.data.toList)).size ≤ maxLen := Nat.le_trans (rest_size s) hs
  have hpw : ∀ w, Calls Try.prog 11 #[txt (Dig.rest s.data.toList)] w fun e w' => e = .returned (.tuple #[.int .u64 ((Dig.pw (Dig.rest s.data.toList)).1 : Int), .int .i64 ((Dig.pw (Dig.rest s.data.toList)).2 : Int)]) ∧ w = w' := fun w => d_ParseWord _ hr w
  have hcut : ∀ w, Calls Try.prog 24 #[.string s, .string ⟨#[45]⟩] w fun e w' => e = .returned (.tuple #[txt (Dig.rest s.data.toList), .bool (Dig.below s.data.toList)]) ∧ w = w' := fun w => d_cut s w
  have hlt : (Dig.pw (Dig.rest s.data.toList)).1 < 18446744073709551616 := by
    by_cases h2 : (Dig.pw (Dig.rest s.data.toList)).2 = 0
    · exact (Dig.pw_back _ h2).2
    · unfold Dig.pw at h2 ⊢
      split
      · split
        · assumption
        · simp
      · simp
  have hnum := Dig.pa_num s.data.toList
  have hout := Dig.pa_out s.data.toList
  have hform := Dig.pa_form s.data.toList
  have hnought := Dig.pa_nought s.data.toList
  generalize Dig.pa s.data.toList = ans at *
  have hrest : (bs (Dig.rest s.data.toList)).toList = Dig.rest s.data.toList := by rw [list_of]; rfl
  generalize hb : Dig.below s.data.toList = b at *
  generalize Dig.rest s.data.toList = r at *
  generalize Dig.pw r = p at *
  obtain ⟨n, e⟩ := p
  have Hpw := hid hpw
  have Hcut := hid hcut
  have Hnum := hid hnum
  have Hout := hid hout
  have Hform := hid hform
  have Hnought := hid hnought
  clear hpw hcut hnum hout hform hnought hb hs hr
  have hsig : ∀ w, Calls Try.prog 25 #[.int .u64 n, .bool b] w fun e w' => e = .returned (.tuple #[.int .i64 (Dig.sgn n b).1, .bool (Dig.sgn n b).2]) ∧ w = w' := fun w => d_signed n hlt b w
  generalize Dig.sgn n b = q at *
  obtain ⟨m, ok⟩ := q
  have Hsig := hid hsig
  clear hsig
  have Hrest := hid hrest
  clear hrest
  by_cases h1 : b = true ∧ r = [48]
  · obtain ⟨rfl, hr⟩ := h1
    have ha := Hnought.out ⟨rfl, hr⟩
    subst ha
    have hq : (bs r).toList = [48] := by rw [Hrest.out, hr]
    clear hr
    go_enter Try.func9, Try.ntmps9
    go_wp2_with (go_at_call 24; refine (Hcut.out _).mono ?_; rintro e w' ⟨rfl, rfl⟩)
    go_ret2
    exact ⟨rfl, rfl⟩
  · have hq : b = true → ((bs r).toList == [48]) = false := by
      intro hb
      rw [beq_eq_false_iff_ne, Hrest.out]; exact fun e => h1 ⟨hb, e⟩
    by_cases he : e = 0
    · subst he
      cases ok with
      | true =>
        have ha := Hnum.out h1 rfl rfl
        clear h1
        subst ha
        cases b with
        | true =>
          have hq' := hq rfl
          clear hq
          go_enter Try.func9, Try.ntmps9
          go_wp2_with (first | (go_at_call 24; refine (Hcut.out _).mono ?_; rintro e w' ⟨rfl, rfl⟩) | (go_at_call 11; refine (Hpw.out _).mono ?_; rintro e w' ⟨rfl, rfl⟩) | (go_at_call 25; refine (Hsig.out _).mono ?_; rintro e w' ⟨rfl, rfl⟩))
          go_ret2
          exact ⟨rfl, rfl⟩
        | false =>
          clear hq
          go_enter Try.func9, Try.ntmps9
          go_wp2_with (first | (go_at_call 24; refine (Hcut.out _).mono ?_; rintro e w' ⟨rfl, rfl⟩) | (go_at_call 11; refine (Hpw.out _).mono ?_; rintro e w' ⟨rfl, rfl⟩) | (go_at_call 25; refine (Hsig.out _).mono ?_; rintro e w' ⟨rfl, rfl⟩))
          go_ret2
          exact ⟨rfl, rfl⟩
      | false =>
        have ha := Hout.out h1 rfl (by simp)
        clear h1
        subst ha
        cases b with
        | true =>
          have hq' := hq rfl
          clear hq
          go_enter Try.func9, Try.ntmps9
          go_wp2_with (first | (go_at_call 24; refine (Hcut.out _).mono ?_; rintro e w' ⟨rfl, rfl⟩) | (go_at_call 11; refine (Hpw.out _).mono ?_; rintro e w' ⟨rfl, rfl⟩) | (go_at_call 25; refine (Hsig.out _).mono ?_; rintro e w' ⟨rfl, rfl⟩))
          go_ret2
          exact ⟨rfl, rfl⟩
        | false =>
          clear hq
          go_enter Try.func9, Try.ntmps9
          go_wp2_with (first | (go_at_call 24; refine (Hcut.out _).mono ?_; rintro e w' ⟨rfl, rfl⟩) | (go_at_call 11; refine (Hpw.out _).mono ?_; rintro e w' ⟨rfl, rfl⟩) | (go_at_call 25; refine (Hsig.out _).mono ?_; rintro e w' ⟨rfl, rfl⟩))
          go_ret2
          exact ⟨rfl, rfl⟩
    · have ha := Hform.out h1 he
      have he' : ((e : Int) != 0) = true := by rw [bne_iff_ne]; omega
      clear h1
      subst ha
      cases b with
      | true =>
        have hq' := hq rfl
        clear hq
        go_enter Try.func9, Try.ntmps9
        go_wp2_with (first | (go_at_call 24; refine (Hcut.out _).mono ?_; rintro e w' ⟨rfl, rfl⟩) | (go_at_call 11; refine (Hpw.out _).mono ?_; rintro e w' ⟨rfl, rfl⟩) | (go_at_call 25; refine (Hsig.out _).mono ?_; rintro e w' ⟨rfl, rfl⟩))
        go_ret2
        exact ⟨rfl, rfl⟩
      | false =>
        clear hq
        go_enter Try.func9, Try.ntmps9
        go_wp2_with (first | (go_at_call 24; refine (Hcut.out _).mono ?_; rintro e w' ⟨rfl, rfl⟩) | (go_at_call 11; refine (Hpw.out _).mono ?_; rintro e w' ⟨rfl, rfl⟩) | (go_at_call 25; refine (Hsig.out _).mono ?_; rintro e w' ⟨rfl, rfl⟩))
        go_ret2
        exact ⟨rfl, rfl⟩

theorem d_Within (s : ByteArray) (hs : s.size ≤ maxLen) (lo hi : Int) (w : World) :
    Calls Try.prog 22 #[.string s, .int .i64 lo, .int .i64 hi] w fun e w' => e = .returned (.tuple #[.int .i64 (Dig.within s.data.toList lo hi).1, .int .i64 ((Dig.within s.data.toList lo hi).2 : Int)]) ∧ w = w' := by
  have Hpa := hid (fun w => d_Parse s hs w)
  have hw : Hid (Dig.within s.data.toList lo hi = if (Dig.pa s.data.toList).2 ≠ 0 then (0, (Dig.pa s.data.toList).2) else if (Dig.pa s.data.toList).1 < lo ∨ hi < (Dig.pa s.data.toList).1 then (0, 6) else ((Dig.pa s.data.toList).1, 0)) := rfl
  generalize Dig.within s.data.toList lo hi = ans at *
  generalize Dig.pa s.data.toList = p at *
  obtain ⟨n, e⟩ := p
  by_cases he : e = 0
  · subst he
    have hw2 : Hid (ans = if n < lo ∨ hi < n then (0, 6) else (n, 0)) := by
      have := hw.out
      rwa [if_neg (by simp)] at this
    clear hw
    by_cases h1 : n < lo
    · have := hw2.out
      rw [if_pos (.inl h1)] at this
      subst this
      go_enter Try.func22, Try.ntmps22
      go_wp2_with (go_at_call 9; refine (Hpa.out _).mono ?_; rintro e w' ⟨rfl, rfl⟩)
      go_ret2
      exact ⟨rfl, rfl⟩
    · by_cases h2 : hi < n
      · have := hw2.out
        rw [if_pos (.inr h2)] at this
        subst this
        go_enter Try.func22, Try.ntmps22
        go_wp2_with (go_at_call 9; refine (Hpa.out _).mono ?_; rintro e w' ⟨rfl, rfl⟩)
        go_ret2
        exact ⟨rfl, rfl⟩
      · have := hw2.out
        rw [if_neg (by omega)] at this
        subst this
        go_enter Try.func22, Try.ntmps22
        go_wp2_with (go_at_call 9; refine (Hpa.out _).mono ?_; rintro e w' ⟨rfl, rfl⟩)
        go_ret2
        exact ⟨rfl, rfl⟩
  · have := hw.out
    rw [if_pos he] at this
    subst this
    have he' : ((e : Int) != 0) = true := by rw [bne_iff_ne]; omega
    clear hw
    go_enter Try.func22, Try.ntmps22
    go_wp2_with (go_at_call 9; refine (Hpa.out _).mono ?_; rintro e w' ⟨rfl, rfl⟩)
    go_ret2
    exact ⟨rfl, rfl⟩
end Go.Proofs.Ytaiohmodhngpbaa

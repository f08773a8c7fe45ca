/- Rows of values that are read; contracts of layer 3 (octet): cut, span, Take: they compute alone, nothing in memory changes. -/
import Derived.Test.YtfnllijimmgaoaaLib
import Derived.Test.YtfnllijimmgaoaaOctM
import Derived.Test.YtfnllijimmgaoaaProg
import Derived.Outline
import Derived.DataElems
import Derived.Laws.Bits64b
namespace Go.Proofs.Ytfnllijimmgaoaa
open Go.RowKit

theorem add_block (a : Addr) (k : Nat) : (a.add k).block = a.block := by unfold Addr.add; split <;> rfl
/-- the slice value with this address reads as these values, and lies below block B -/
def Rd (w : World) (B : Nat) (A : Option Addr) (vs : List Value) : Prop :=
  vs ≠ [] → ∃ ad, A = some ad ∧ ad.block < B ∧ ∀ k v, vs[k]? = some v → w.cell? (ad.add k) = some v
theorem Rd.none_ (w : World) (B : Nat) (A : Option Addr) : Rd w B A [] := fun h => absurd rfl h
theorem Rd.at_ {w : World} {B : Nat} {A : Option Addr} {vs : List Value} (h : Rd w B A vs) {k : Nat} (hk : k < vs.length) : ∃ ad, A = some ad ∧ ad.block < B ∧ w.cell? (ad.add k) = some vs[k] := by
  obtain ⟨ad, e, hb, hc⟩ := h (by intro e; subst e; simp at hk)
  exact ⟨ad, e, hb, hc k _ (List.getElem?_eq_getElem hk)⟩
theorem Rd.keep {w w' : World} {B : Nat} {A : Option Addr} {vs : List Value} (h : Rd w B A vs) (hk : ∀ p : Addr, p.block < B → w'.cell? p = w.cell? p) : Rd w' B A vs := fun hn => by
  obtain ⟨ad, e, hb, hc⟩ := h hn
  exact ⟨ad, e, hb, fun k l hl => (hk _ (by rw [add_block]; exact hb)).trans (hc k l hl)⟩
theorem Rd.more {w : World} {B B' : Nat} {A : Option Addr} {vs : List Value} (h : Rd w B A vs) (hB : B ≤ B') : Rd w B' A vs := fun hn => by
  obtain ⟨ad, e, hb, hc⟩ := h hn
  exact ⟨ad, e, by omega, hc⟩
theorem Rd.below {w w' : World} {B C : Nat} {A : Option Addr} {vs : List Value} (h : Rd w B A vs) (hb : Below C w w') (hC : B ≤ C) : Rd w' B A vs := h.keep fun _ hp => hb.cell (Nat.lt_of_lt_of_le hp hC)
theorem Rd.of_own {w : World} {base : Nat} {e : TypeId} {A : Option Addr} {n c : Nat} {vs : List Value} (h : w.ownsRow base e 1 (.slice A n c) n vs) : Rd w w.heap.size A vs := fun hn => by
  have hl : vs.length = n := by have := h.1; simpa using this
  have hp : 0 < n := by rw [← hl]; exact List.length_pos_iff.2 hn
  rcases h.2 with ⟨_, h0⟩ | ⟨g, cap, cur, hv, _, hg, _⟩
  · omega
  have hA : A = some ⟨g, 0, none⟩ := by injection hv
  subst hA
  exact ⟨_, rfl, (h.lt g rfl).2, fun k l hk => h.cells (g := g) rfl k _ hk⟩
/-- a slice value of the call's own is an address, and reads as its values -/
theorem own_rd {w : World} {base : Nat} {e : TypeId} {v : Value} {n : Nat} {vs : List Value} (h : w.ownsRow base e 1 v n vs) : ∃ A c, v = .slice A n c ∧ Rd w w.heap.size A vs ∧ n ≤ c := by
  rcases h.2 with ⟨rfl, rfl⟩ | ⟨g, cap, cur, rfl, _, _, hn, _⟩
  · exact ⟨none, 0, rfl, by have := h.1; rw [List.eq_nil_of_length_eq_zero (l := vs) (by simpa using this)]; exact Rd.none_ _ _ _, Nat.le_refl _⟩
  · exact ⟨some ⟨g, 0, none⟩, cap, rfl, Rd.of_own h, hn⟩
/-- a part of a row -/
theorem Rd.part {w : World} {B : Nat} {A : Option Addr} {vs : List Value} (h : Rd w B A vs) (f t m : Nat) (ht : t ≤ m) : Rd w B (if m = f then A else A.map (·.add (f * 1))) ((vs.drop f).take (t - f)) := fun hn => by
  have hne : vs ≠ [] := by intro e; apply hn; rw [e]; simp
  obtain ⟨ad, rfl, hb, hc⟩ := h hne
  have hlt : f < t := by
    rcases Nat.lt_or_ge f t with h | h
    · exact h
    · exact absurd (by rw [show t - f = 0 by omega, List.take_zero]) hn
  rw [if_neg (by omega), Nat.mul_one]
  refine ⟨ad.add f, rfl, by rw [add_block]; exact hb, fun k v hk => ?_⟩
  rw [List.getElem?_take] at hk
  split at hk
  · rw [List.getElem?_drop] at hk
    rw [Addr.add_add]
    exact hc _ _ hk
  · cases hk
/-- a row of bytes; of ints -/
abbrev Byt (w : World) (B : Nat) (A : Option Addr) (l : List UInt8) : Prop := Rd w B A (l.map bcell)
abbrev Its (w : World) (B : Nat) (A : Option Addr) (l : List Int) : Prop := Rd w B A (l.map (Value.int .i64))
theorem Byt.get {w : World} {B : Nat} {A : Option Addr} {l : List UInt8} (h : Byt w B A l) {k : Nat} (hk : k < l.length) : ∃ ad x, A = some ad ∧ ad.block < B ∧ Hid (l.getD k 0 = x) ∧ w.cell? (ad.add k) = some (.int .u8 (x.toNat : Int)) := by
  obtain ⟨ad, e, hb, hc⟩ := Rd.at_ h (k := k) (by rw [List.length_map]; exact hk)
  refine ⟨ad, _, e, hb, rfl, ?_⟩
  rw [hc, List.getElem_map, List.getD_eq_getElem?_getD, List.getElem?_eq_getElem hk]
  rfl
theorem Byt.part {w : World} {B : Nat} {A : Option Addr} {l : List UInt8} (h : Byt w B A l) (f t m : Nat) (ht : t ≤ m) : Byt w B (if m = f then A else A.map (·.add (f * 1))) ((l.drop f).take (t - f)) := by
  have := Rd.part h f t m ht
  rwa [← List.map_drop, ← List.map_take] at this

/-! ### cut -/
def CutRet (A : Option Addr) (l : List UInt8) (B : Nat) (f t : Nat) (w : World) (e : Ending) (w' : World) : Prop := ∃ A', e = .returned (.slice A' (t - f) (t - f)) ∧ w = w' ∧ Byt w B A' ((l.drop f).take (t - f)) ∧ (f = 0 → A' = A)
theorem p_cut (A : Option Addr) (n c f t : Nat) (hf : f ≤ t) (ht : t ≤ c) (l : List UInt8) (B : Nat) (w : World) (h : Byt w B A l) :
    Calls Try.prog 30 #[.slice A n c, .int .i64 f, .int .i64 t] w (CutRet A l B f t w) := by
  have h1 : (0 : Int) ≤ (f : Int) := by omega
  have h2 : (f : Int) ≤ (t : Int) := by omega
  have h3 : (t : Int) ≤ (t : Int) := by omega
  have h4 : (t : Int) ≤ (c : Int) := by omega
  by_cases hft : t = f
  · subst hft
    go_enter Try.func30, Try.ntmps30
    go_wp2
    go_ret
    refine ⟨A, by rw [Nat.sub_self]; rfl, rfl, ?_, fun _ => rfl⟩
    rw [Nat.sub_self, List.take_zero]
    exact Rd.none_ _ _ _
  · have hp := Byt.part h f t t (Nat.le_refl _)
    rw [if_neg hft, Nat.mul_one] at hp
    have Hp := hid hp
    clear hp h
    go_enter Try.func30, Try.ntmps30
    go_wp2
    go_ret
    exact ⟨_, rfl, rfl, Hp.out, fun h0 => by subst h0; cases A <;> simp [Addr.add]⟩

theorem q_cut {A : Option Addr} {n c f t : Nat} (hf : f ≤ t) (ht : t ≤ c) {l : List UInt8} {B : Nat} {w : World} (h : Byt w B A l) {x y : Int} (hx : x = f) (hy : y = t) :
    Calls Try.prog 30 #[.slice A n c, .int .i64 x, .int .i64 y] w (CutRet A l B f t w) := by
  subst hx
  subst hy
  exact p_cut A n c f t hf ht l B w h

/-! ### span -/
theorem p_low (c : UInt8) (w : World) : Calls Try.prog 36 #[.int .u8 (c.toNat : Int)] w fun e w' => e = .returned (.bool (decide ((c.toNat : Int) < 128))) ∧ w = w' := by
  go_enter Try.func36, Try.ntmps36
  go_wp2
  go_ret
  exact ⟨rfl, rfl⟩
/-- where the first byte is that is not 128 or more, or -1 -/
def ix (l : List UInt8) : Int := if Oct.hc 10 l < l.length then (Oct.hc 10 l : Int) else -1
def IxRet (l : List UInt8) (w : World) (e : Ending) (w' : World) : Prop := e = .returned (.int .i64 (ix l)) ∧ w = w'
theorem IxRet.mk {l : List UInt8} {x : Int} (w : World) (h : x = ix l) : IxRet l w (.returned (.int .i64 x)) w := by unfold IxRet; rw [h]; exact ⟨rfl, rfl⟩
theorem p_ix (A : Option Addr) (c : Nat) (l : List UInt8) (B : Nat) (w : World) (h : Byt w B A l) (h10 : l.length ≤ 10) :
    Calls Try.prog 35 #[.slice A l.length c, .func (.func 36) #[] #[]] w (IxRet l w) := by
  have H := hid h
  have Hhi := hid (Oct.hc_high 10 l)
  have hle := Oct.hc_le 10 l
  have Hlo := hid (Oct.hc_low 10 l)
  have Hix := hid (show ix l = if Oct.hc 10 l < l.length then (Oct.hc 10 l : Int) else -1 from rfl)
  generalize Oct.hc 10 l = m at *
  clear h
  go_enter Try.func35, Try.ntmps35
  go_wp2
  go_loop [8] (fun i => ∃ k : Nat, i = .int .i64 k ∧ k ≤ m) (fun i => l.length - (intOf i).toNat)
  case atStart => exact ⟨0, rfl, Nat.zero_le _⟩
  case round =>
    obtain ⟨k, rfl, hk⟩ := hrel
    by_cases hlt : k < l.length
    · obtain ⟨ad, x, rfl, _, Hx, hc⟩ := Byt.get H.out hlt
      have Hp := hid (fun w => p_low x w)
      by_cases hkm : k = m
      · have hlow : (x.toNat : Int) < 128 := by
          have := Hlo.out (by omega) (by omega)
          rw [← hkm, Hx.out] at this; omega
        have Hres := hid (show ix l = (k : Int) by rw [Hix.out, if_pos (by omega), hkm])
        rw [decide_eq_true hlow] at Hp
        clear hkm
        go_wp2_with fail
        refine (Hp.out _).mono ?_
        rintro e w' ⟨rfl, rfl⟩
        go_wp2_with fail
        go_ret
        exact IxRet.mk _ Hres.out.symm
      · have hhi : ¬ (x.toNat : Int) < 128 := by
          have := Hhi.out k (by omega)
          rw [Hx.out] at this; omega
        rw [decide_eq_false hhi] at Hp
        go_wp2_with fail
        refine (Hp.out _).mono ?_
        rintro e w' ⟨rfl, rfl⟩
        go_wp2_with fail
        go_round
        case rel => exact ⟨k + 1, by go_num, by omega⟩
        case measure => simp [intOf]; omega
    · have Hres := hid (show ix l = (-1 : Int) by rw [Hix.out, if_neg (by omega)])
      go_wp2_with fail
      go_ret
      exact IxRet.mk _ Hres.out.symm

def SpRet (l : List UInt8) (w : World) (e : Ending) (w' : World) : Prop := e = .returned (.tuple #[.int .i64 ((Oct.tk l).2.1 : Int), .int .i64 (Oct.tk l).2.2]) ∧ w = w'
theorem SpRet.mk {l : List UInt8} {v k : Nat} {r x y : Int} (w : World) (h : Oct.tk l = (v, k, r)) (hx : x = k) (hy : y = r) : SpRet l w (.returned (.tuple #[.int .i64 x, .int .i64 y])) w := by unfold SpRet; rw [h, hx, hy]; exact ⟨rfl, rfl⟩
set_option maxHeartbeats 1000000 in
theorem p_span (A : Option Addr) (n c : Nat) (l : List UInt8) (hn : l.length = n) (B : Nat) (w : World) (h : Byt w B A l) (h10 : l.length ≤ 10) :
    Calls Try.prog 31 #[.slice A n c] w (SpRet l w) := by
  subst hn
  have H := hid h
  have hp := fun w (h : Byt w B A l) => p_ix A c l B w h h10
  unfold IxRet at hp
  have hle := Oct.hc_le 10 l
  have Hix := hid (show ix l = if Oct.hc 10 l < l.length then (Oct.hc 10 l : Int) else -1 from rfl)
  have Htk := hid (show Oct.tk l = if Oct.hc 10 l = 10 ∨ (Oct.hc 10 l = 9 ∧ 9 < l.length ∧ 1 < (l.getD 9 0).toNat) then (0, 0, 3)
    else if Oct.hc 10 l = l.length then (0, 0, 4)
    else if 0 < Oct.hc 10 l ∧ (l.getD (Oct.hc 10 l) 0).toNat = 0 then (0, 0, 3)
    else (Oct.val (l.take (Oct.hc 10 l + 1)), Oct.hc 10 l + 1, 0) from rfl)
  generalize Oct.hc 10 l = m at *
  by_cases hm : m < l.length
  · rw [show ix l = (m : Int) by rw [Hix.out, if_pos hm]] at hp
    have Hp := hid hp
    obtain ⟨ad, x, rfl, _, Hx, hc⟩ := Byt.get h hm
    clear hp h
    have hlt : (m : Int) < l.length := by omega
    have hlt0 : (0 : Int) ≤ (m : Int) := by omega
    have hm10 : (m : Int) < 10 := by omega
    have hne : (m : Int) ≠ l.length := by omega
    by_cases h9 : m = 9
    · have h9' : ((m : Int) == 9) = true := by rw [beq_iff_eq]; omega
      by_cases hx1 : 1 < (x.toNat : Int)
      · have Hres := hid (show Oct.tk l = (0, 0, 3) by rw [Htk.out, if_pos (.inr ⟨h9, by omega, by rw [← h9, Hx.out]; omega⟩)])
        clear h9
        go_enter Try.func31, Try.ntmps31
        go_wp2_with fail
        refine (Hp.out _ H.out).mono ?_
        rintro e w' ⟨rfl, rfl⟩
        go_wp2_with fail
        go_ret2
        exact SpRet.mk _ Hres.out rfl rfl
      · have hn1 : ¬ (m = 10 ∨ (m = 9 ∧ 9 < l.length ∧ 1 < (l.getD 9 0).toNat)) := by
          rintro (h | ⟨_, _, h⟩)
          · omega
          · rw [← h9, Hx.out] at h; omega
        have hm0 : 0 < (m : Int) := by omega
        by_cases hx0 : x.toNat = 0
        · have Hres := hid (show Oct.tk l = (0, 0, 3) by rw [Htk.out, if_neg hn1, if_neg (by omega), if_pos ⟨by omega, by rw [Hx.out]; exact hx0⟩])
          have hx0' : ((x.toNat : Int) == 0) = true := by rw [beq_iff_eq]; omega
          clear h9 hx0 hn1
          go_enter Try.func31, Try.ntmps31
          go_wp2_with fail
          refine (Hp.out _ H.out).mono ?_
          rintro e w' ⟨rfl, rfl⟩
          go_wp2_with fail
          go_ret2
          exact SpRet.mk _ Hres.out rfl rfl
        · have Hres := hid (show Oct.tk l = (Oct.val (l.take (m + 1)), m + 1, 0) by rw [Htk.out, if_neg hn1, if_neg (by omega), if_neg (by rw [Hx.out]; exact fun h => hx0 h.2)])
          have hx0' : ((x.toNat : Int) == 0) = false := by rw [beq_eq_false_iff_ne]; omega
          clear h9 hx0 hn1
          go_enter Try.func31, Try.ntmps31
          go_wp2_with fail
          refine (Hp.out _ H.out).mono ?_
          rintro e w' ⟨rfl, rfl⟩
          go_wp2_with fail
          go_ret2
          exact SpRet.mk _ Hres.out (by first | rfl | (go_num) | simp) rfl
    · have h9' : ((m : Int) == 9) = false := by rw [beq_eq_false_iff_ne]; omega
      have hn1 : ¬ (m = 10 ∨ (m = 9 ∧ 9 < l.length ∧ 1 < (l.getD 9 0).toNat)) := by omega
      by_cases hm0 : 0 < (m : Int)
      · by_cases hx0 : x.toNat = 0
        · have Hres := hid (show Oct.tk l = (0, 0, 3) by rw [Htk.out, if_neg hn1, if_neg (by omega), if_pos ⟨by omega, by rw [Hx.out]; exact hx0⟩])
          have hx0' : ((x.toNat : Int) == 0) = true := by rw [beq_iff_eq]; omega
          clear h9 hx0 hn1
          go_enter Try.func31, Try.ntmps31
          go_wp2_with fail
          refine (Hp.out _ H.out).mono ?_
          rintro e w' ⟨rfl, rfl⟩
          go_wp2_with fail
          go_ret2
          exact SpRet.mk _ Hres.out rfl rfl
        · have Hres := hid (show Oct.tk l = (Oct.val (l.take (m + 1)), m + 1, 0) by rw [Htk.out, if_neg hn1, if_neg (by omega), if_neg (by rw [Hx.out]; exact fun h => hx0 h.2)])
          have hx0' : ((x.toNat : Int) == 0) = false := by rw [beq_eq_false_iff_ne]; omega
          clear h9 hx0 hn1
          go_enter Try.func31, Try.ntmps31
          go_wp2_with fail
          refine (Hp.out _ H.out).mono ?_
          rintro e w' ⟨rfl, rfl⟩
          go_wp2_with fail
          go_ret2
          exact SpRet.mk _ Hres.out (by first | rfl | (go_num) | simp) rfl
      · have Hres := hid (show Oct.tk l = (Oct.val (l.take (m + 1)), m + 1, 0) by rw [Htk.out, if_neg hn1, if_neg (by omega), if_neg (by omega)])
        clear h9 hn1
        go_enter Try.func31, Try.ntmps31
        go_wp2_with fail
        refine (Hp.out _ H.out).mono ?_
        rintro e w' ⟨rfl, rfl⟩
        go_wp2_with fail
        go_ret2
        exact SpRet.mk _ Hres.out (by first | rfl | (go_num) | simp) rfl
  · rw [show ix l = (-1 : Int) by rw [Hix.out, if_neg hm]] at hp
    have Hp := hid hp
    clear hp h
    have hml : m = l.length := by omega
    by_cases hl : l.length = 10
    · have Hres := hid (show Oct.tk l = (0, 0, 3) by rw [Htk.out, if_pos (.inl (by omega))])
      have hl' : ((l.length : Int) == 10) = true := by rw [beq_iff_eq]; omega
      clear hl hml
      go_enter Try.func31, Try.ntmps31
      go_wp2_with fail
      refine (Hp.out _ H.out).mono ?_
      rintro e w' ⟨rfl, rfl⟩
      go_wp2_with fail
      go_ret2
      exact SpRet.mk _ Hres.out rfl rfl
    · have Hres := hid (show Oct.tk l = (0, 0, 4) by rw [Htk.out, if_neg (by omega), if_pos hml])
      have hl' : ((l.length : Int) == 10) = false := by rw [beq_eq_false_iff_ne]; omega
      clear hl hml
      go_enter Try.func31, Try.ntmps31
      go_wp2_with fail
      refine (Hp.out _ H.out).mono ?_
      rintro e w' ⟨rfl, rfl⟩
      go_wp2_with fail
      go_ret2
      exact SpRet.mk _ Hres.out rfl rfl
end Go.Proofs.Ytfnllijimmgaoaa

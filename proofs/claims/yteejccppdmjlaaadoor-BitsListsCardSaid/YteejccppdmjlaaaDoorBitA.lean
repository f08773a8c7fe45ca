/- The program's computing functions of layer 5: bits of words, word, bit, Has, short, Clone. -/
import Derived.Test.YteejccppdmjlaaaDoorSetE
import Derived.Laws.Bits64b
namespace Go.Proofs.YteejccppdmjlaaaDoor
open Go.RowKit

theorem bits_andNot_nat (x y : Nat) (hx : x < 18446744073709551616) (hy : y < 18446744073709551616) : bits .andNot .u64 (x : Int) (y : Int) = ((Bst.andNot x y : Nat) : Int) := by
  have h1 : (BitVec.ofInt 64 (x : Int)).toNat = x := by
    rw [BitVec.ofInt_natCast, BitVec.toNat_ofNat]; exact Nat.mod_eq_of_lt (by omega)
  have h2 : (BitVec.ofInt 64 (y : Int)).toNat = y := by
    rw [BitVec.ofInt_natCast, BitVec.toNat_ofNat]; exact Nat.mod_eq_of_lt (by omega)
  have hl := Bst.andNot_lt (y := y) hx
  show IntKind.u64.wrap ((BitVec.ofInt 64 (x : Int) &&& ~~~ BitVec.ofInt 64 (y : Int)).toNat : Int) = _
  have e : (BitVec.ofInt 64 (x : Int) &&& ~~~ BitVec.ofInt 64 (y : Int)).toNat = Bst.andNot x y := by
    apply Nat.eq_of_testBit_eq
    intro i
    rw [Bst.testBit_andNot, BitVec.testBit_toNat, BitVec.getLsbD_and, BitVec.getLsbD_not, ← BitVec.testBit_toNat, ← BitVec.testBit_toNat, h1, h2]
    by_cases hi : i < 64
    · rw [decide_eq_true hi, Bool.true_and]
    · have hz : x.testBit i = false := Nat.testBit_lt_two_pow (Nat.lt_of_lt_of_le hx (by rw [show 18446744073709551616 = 2 ^ 64 from rfl]; exact Nat.pow_le_pow_right (by decide) (by omega)))
      rw [hz, Bool.false_and, Bool.false_and]
  rw [e, IntKind.wrap_u64]
  omega

theorem Us.pre {w : World} {B : Nat} {A : Option Addr} {l : List Nat} (h : Us w B A l) (k : Nat) : Us w B A (l.take k) := fun hn => by
  have hne : l.map ucell ≠ [] := by intro e; apply hn; rw [List.map_take, e, List.take_nil]
  obtain ⟨ad, e, hb, hc⟩ := h hne
  refine ⟨ad, e, hb, fun j v hj => hc j v ?_⟩
  rw [List.map_take, List.getElem?_take] at hj
  split at hj
  · exact hj
  · cases hj
def ShortRet (A : Option Addr) (c : Nat) (L : List Nat) (w : World) (e : Ending) (w' : World) : Prop := ∃ k, k ≤ L.length ∧ e = .returned (.slice A k c) ∧ w = w' ∧ (∀ j, k ≤ j → L.getD j 0 = 0) ∧ (k = 0 ∨ L.getD (k - 1) 0 ≠ 0)

set_option maxHeartbeats 1000000 in
theorem p_short (A : Option Addr) (n c : Nat) (L : List Nat) (hn : L.length = n) (hc : n ≤ c) (hm : n ≤ 1000000) (B : Nat) (w : World) (h : Us w B A L) :
    Calls Tryd.prog 34 #[.slice A n c] w (ShortRet A c L w) := by
  subst hn
  have H := hid h
  clear h
  go_enter Tryd.func34, Tryd.ntmps34
  go_wp2_with fail
  go_loop [0] (fun sv => ∃ k : Nat, k ≤ L.length ∧ sv = .slice A k c ∧ ∀ j, k ≤ j → L.getD j 0 = 0) (fun sv => slen sv)
  case atStart => exact ⟨L.length, Nat.le_refl _, rfl, fun j hj => Bst.getD_ge hj⟩
  case round =>
    obtain ⟨k, hk, rfl, hz⟩ := hrel
    have Hz := hid hz
    clear hz
    cases k with
    | zero =>
      go_wp2_with fail
      go_ret
      exact ⟨0, Nat.zero_le _, rfl, rfl, Hz.out, .inl rfl⟩
    | succ k =>
      obtain ⟨ad, x, rfl, _, Hx, hcx⟩ := Us.get H.out (k := k) (by omega)
      have hp : (0 : Int) < ((k + 1 : Nat) : Int) := by omega
      have he : ((k + 1 : Nat) : Int) - 1 = (k : Int) := by omega
      have i1 : (0 : Int) ≤ (k : Int) := by omega
      have i2 : (k : Int) < ((k + 1 : Nat) : Int) := by omega
      have i3 : (k : Int) ≤ (c : Int) := by omega
      by_cases hx : x = 0
      · have hx' : ((x : Int) == 0) = true := by rw [beq_iff_eq]; omega
        have Hx0 := hid (Hx.out.trans hx)
        clear hx
        go_wp2_with fail
        refine ⟨⟨k, by omega, rfl, fun j hj => ?_⟩, by simp [slen]⟩
        by_cases hjk : j = k
        · rw [hjk, Hx0.out]
        · exact Hz.out j (by omega)
      · have hx' : ((x : Int) == 0) = false := by rw [beq_eq_false_iff_ne]; omega
        have Hx0 := hid (show L.getD (k + 1 - 1) 0 ≠ 0 by rw [Nat.add_sub_cancel, Hx.out]; exact hx)
        clear hx
        go_wp2_with fail
        go_ret
        exact ⟨k + 1, hk, rfl, rfl, Hz.out, .inr Hx0.out⟩

theorem p_word (A : Option Addr) (n c : Nat) (L : List Nat) (hn : L.length = n) (hm : n ≤ 1000000) (k : Nat) (hk : k ≤ 9223372036854775807) (B : Nat) (w : World) (h : Us w B A L) :
    Calls Tryd.prog 28 #[.slice A n c, .int .i64 (k : Int)] w fun e w' => e = .returned (.int .u64 (L.getD k 0 : Nat)) ∧ w = w' := by
  subst hn
  by_cases hlt : k < L.length
  · obtain ⟨ad, x, rfl, _, Hx, hcx⟩ := Us.get h (k := k) hlt
    rw [Hx.out]
    have i1 : (0 : Int) ≤ (k : Int) := by omega
    have i2 : (k : Int) < (L.length : Int) := by omega
    clear h
    go_enter Tryd.func28, Tryd.ntmps28
    go_wp2_with fail
    go_ret
    exact ⟨rfl, rfl⟩
  · have e : L.getD k 0 = 0 := Bst.getD_ge (by omega)
    rw [e]
    have i2 : ¬ (k : Int) < (L.length : Int) := by omega
    clear h
    go_enter Tryd.func28, Tryd.ntmps28
    go_wp2_with fail
    go_ret
    exact ⟨rfl, rfl⟩


def WordRet (x : Nat) (w : World) (e : Ending) (w' : World) : Prop := e = .returned (.int .u64 (x : Int)) ∧ w = w'
theorem p_bit (k : Nat) (hk : k ≤ 9223372036854775807) (w : World) : Calls Tryd.prog 33 #[.int .i64 (k : Int)] w (WordRet (2 ^ (k % 64)) w) := by
  go_enter Tryd.func33, Tryd.ntmps33
  go_wp2_with fail
  go_ret
  refine ⟨?_, rfl⟩
  have h : (2 : Nat) ^ (k % 64) ≤ 2 ^ 63 := Nat.pow_le_pow_right (by decide) (by omega)
  have e : (2 : Int) ^ (k % 64) = ((2 ^ (k % 64) : Nat) : Int) := by rw [Int.natCast_pow]; rfl
  rw [e, IntKind.wrap_u64]
  generalize 2 ^ (k % 64) = y at *
  have e2 : ((y : Nat) : Int) % 18446744073709551616 = (y : Int) := by omega
  rw [e2]
  rfl
theorem two_lt (j : Nat) : 2 ^ (j % 64) < 18446744073709551616 := Nat.lt_of_le_of_lt (Nat.pow_le_pow_right (by decide) (show j % 64 ≤ 63 by omega)) (by decide)
theorem and_bit (x j : Nat) : (((x &&& 2 ^ j : Nat) : Int) != 0) = x.testBit j := by
  cases hx : x.testBit j with
  | false =>
    have e : x &&& 2 ^ j = 0 := by
      apply Nat.eq_of_testBit_eq
      intro i
      rw [Nat.testBit_and, Nat.testBit_two_pow, Nat.zero_testBit]
      by_cases hi : j = i
      · subst hi; rw [hx, Bool.false_and]
      · rw [decide_eq_false hi, Bool.and_false]
    rw [e]; rfl
  | true =>
    rw [bne_iff_ne]
    intro h
    have e : x &&& 2 ^ j = 0 := by omega
    have h2 : (x &&& 2 ^ j).testBit j = true := by rw [Nat.testBit_and, hx, Nat.testBit_two_pow, decide_eq_true rfl]; rfl
    rw [e, Nat.zero_testBit] at h2
    cases h2

set_option maxHeartbeats 1000000 in
theorem p_Has (A : Option Addr) (n c : Nat) (s : List Nat) (hn : s.length = n) (hm : n ≤ 1000000) (hok : Bst.Ok s) (i : Int) (hi : I64 i) (B : Nat) (w : World) (h : Us w B A s) :
    Calls Tryd.prog 19 #[.slice A n c, .int .i64 i] w (BoolRet (Bst.memI s i) w) := by
  subst hn
  unfold I64 at hi
  by_cases h0 : i < 0
  · have Hres := hid (show Bst.memI s i = false by unfold Bst.memI; rw [decide_eq_false (by omega)]; rfl)
    clear h
    go_enter Tryd.func19, Tryd.ntmps19
    go_wp2_with fail
    go_ret
    exact BoolRet.mk (by rw [Hres.out]) _
  obtain ⟨k, rfl⟩ : ∃ k : Nat, i = k := ⟨i.toNat, by omega⟩
  have Hres := hid (show Bst.memI s (k : Int) = (s.getD (k / 64) 0).testBit (k % 64) by unfold Bst.memI; rw [decide_eq_true (by omega), Int.toNat_natCast]; rfl)
  have hg : (0 : Int) ≤ (k : Int) := by omega
  have Hw := hid (fun (x : Int) (hx : x = ((k / 64 : Nat) : Int)) => show Calls Tryd.prog 28 #[.slice A s.length c, .int .i64 x] w (WordRet (s.getD (k / 64) 0) w) by subst hx; exact p_word A s.length c s rfl hm (k / 64) (by omega) B w h)
  have Hb := hid (p_bit k (by omega) w)
  have Hand := hid (bits_and_u64_nat (s.getD (k / 64) 0) (2 ^ (k % 64)) (hok.getD _) (two_lt k))
  have Hfin := hid (and_bit (s.getD (k / 64) 0) (k % 64))
  rw [← Hres.out] at Hfin
  unfold WordRet at Hw Hb
  generalize s.getD (k / 64) 0 = x at *
  generalize 2 ^ (k % 64) = y at *
  generalize x.testBit (k % 64) = z at *
  clear h
  go_enter Tryd.func19, Tryd.ntmps19
  go_wp2_with fail
  refine (Hw.out _ (by omega)).mono ?_
  rintro e w' ⟨rfl, rfl⟩
  go_wp2_with fail
  refine (Hb.out).mono ?_
  rintro e w' ⟨rfl, rfl⟩
  go_wp2_with fail
  go_ret
  exact BoolRet.mk (by first | exact Hfin.out | (rw [Hand.out]; exact Hfin.out)) _

def CntRet (n : Nat) (w : World) (e : Ending) (w' : World) : Prop := e = .returned (.int .i64 (n : Int)) ∧ Below w.heap.size w w'
def QRet (p : Prop) (w : World) (e : Ending) (w' : World) : Prop := ∃ r : Bool, e = .returned (.bool r) ∧ (r = true ↔ p) ∧ Below w.heap.size w w'

theorem andNot_zero (x y : Nat) : Bst.andNot x y = 0 ↔ ∀ j, x.testBit j = true → y.testBit j = true := by
  constructor
  · intro h j hj
    have h2 := Bst.testBit_andNot x y j
    rw [h, Nat.zero_testBit, hj, Bool.true_and] at h2
    cases hy : y.testBit j with
    | true => rfl
    | false => rw [hy] at h2; cases h2
  · intro h
    apply Nat.eq_of_testBit_eq
    intro j
    rw [Bst.testBit_andNot, Nat.zero_testBit]
    cases hj : x.testBit j with
    | false => rfl
    | true => rw [h j hj]; rfl
theorem inside_iff (s t : List Nat) (ho : Bst.Ok s) : (∀ i, Bst.mem s i = true → Bst.mem t i = true) ↔ ∀ k, k < s.length → Bst.andNot (s.getD k 0) (t.getD k 0) = 0 := by
  constructor
  · intro h k hk
    rw [andNot_zero]
    intro j hj
    rcases Nat.lt_or_ge j 64 with h1 | h1
    · have := h (64 * k + j) (by rw [Bst.mem_at _ _ _ h1]; exact hj)
      rwa [Bst.mem_at _ _ _ h1] at this
    · have e : (18446744073709551616 : Nat) = 2 ^ 64 := by decide
      rw [Nat.testBit_lt_two_pow (Nat.lt_of_lt_of_le (e ▸ ho.getD k) (Nat.pow_le_pow_right (by decide) h1))] at hj
      cases hj
  · intro h i hi
    have hl := Bst.mem_lt hi
    have := (andNot_zero _ _).1 (h (i / 64) (by omega)) (i % 64) hi
    exact this

set_option maxHeartbeats 1000000 in
theorem p_Inside (A : Option Addr) (n c : Nat) (A' : Option Addr) (n' c' : Nat) (s t : List Nat) (hn : s.length = n) (hn' : t.length = n') (hm : n ≤ 10000) (hm' : n' ≤ 10000) (hok : Bst.Ok s) (hok' : Bst.Ok t) (B : Nat) (w : World) (_hB : B ≤ w.heap.size) (h : Us w B A s) (h' : Us w B A' t) :
    Calls Tryd.prog 13 #[.slice A n c, .slice A' n' c'] w (QRet (∀ i, Bst.mem s i = true → Bst.mem t i = true) w) := by
  subst hn
  have H := hid h
  have Hw := hid (fun (k : Nat) (hk : k ≤ 1000000) => p_word A' n' c' t hn' (by omega) k (by omega) B w h')
  have Hres := hid (inside_iff s t hok)
  have Hok := hid hok
  have Hok' := hid hok'
  clear h h' hok hok'
  go_enter Tryd.func13, Tryd.ntmps13
  go_wp2
  go_loop [9] (fun iv => ∃ k : Nat, iv = .int .i64 k ∧ k ≤ s.length ∧ Hid (∀ j, j < k → Bst.andNot (s.getD j 0) (t.getD j 0) = 0)) (fun iv => s.length - (intOf iv).toNat)
  case atStart => exact ⟨0, rfl, Nat.zero_le _, hid (fun j hj => by omega)⟩
  case round =>
    obtain ⟨k, rfl, hk, hz⟩ := hrel
    by_cases hlt : k < s.length
    · obtain ⟨ad, x, rfl, _, Hx, hc⟩ := Us.get H.out hlt
      have Hc := hid (Hw.out k (by omega))
      have hxl := Hok.out.getD k
      have hyl := Hok'.out.getD k
      rw [Hx.out] at hxl
      obtain ⟨y, Hy⟩ : ∃ y, Hid (t.getD k 0 = y) := ⟨_, hid rfl⟩
      rw [Hy.out] at hyl Hc
      have Hand := hid (bits_andNot_nat x y hxl hyl)
      have i1 : (0 : Int) ≤ (k : Int) := by omega
      have i2 : (k : Int) < (s.length : Int) := by omega
      clear hxl hyl
      by_cases h0 : Bst.andNot x y = 0
      · have hne : (bits .andNot .u64 (x : Int) (y : Int) != 0) = false := by rw [Hand.out, h0]; rfl
        have H0 := hid h0
        clear h0
        go_wp2_with fail
        refine (Hc.out).mono ?_
        rintro e w' ⟨rfl, rfl⟩
        go_wp2_with fail
        go_round
        case rel => exact ⟨k + 1, by go_num, by omega, hid (fun j hj => by
          by_cases hjk : j = k
          · subst hjk; rw [Hx.out, Hy.out]; exact H0.out
          · exact hz.out j (by omega))⟩
        case measure => simp [intOf]; omega
      · have hne : (bits .andNot .u64 (x : Int) (y : Int) != 0) = true := by rw [Hand.out, bne_iff_ne]; omega
        have H0 := hid h0
        clear h0
        go_wp2_with fail
        refine (Hc.out).mono ?_
        rintro e w' ⟨rfl, rfl⟩
        go_wp2_with fail
        go_ret
        exact ⟨false, rfl, ⟨fun h => (by cases h), fun h => absurd (by have := (Hres.out.1 h) k hlt; rw [Hx.out, Hy.out] at this; exact this) H0.out⟩, Below.refl _ _⟩
    · obtain rfl : k = s.length := by omega
      go_wp2_with fail
      go_ret
      exact ⟨true, rfl, ⟨fun _ => Hres.out.2 hz.out, fun _ => rfl⟩, Below.refl _ _⟩

theorem same_iff5 {s t : List Nat} : (∀ i, Bst.mem s i = Bst.mem t i) ↔ (∀ i, Bst.mem s i = true → Bst.mem t i = true) ∧ ∀ i, Bst.mem t i = true → Bst.mem s i = true :=
  ⟨fun h => ⟨fun i hi => by rw [← h]; exact hi, fun i hi => by rw [h]; exact hi⟩, fun h i => by
    rw [Bool.eq_iff_iff]
    exact ⟨h.1 i, h.2 i⟩⟩
set_option maxHeartbeats 1000000 in
theorem p_Same5 (A : Option Addr) (n c : Nat) (A' : Option Addr) (n' c' : Nat) (s t : List Nat) (hn : s.length = n) (hn' : t.length = n') (hm : n ≤ 10000) (hm' : n' ≤ 10000) (hok : Bst.Ok s) (hok' : Bst.Ok t) (B : Nat) (w : World) (hB : B ≤ w.heap.size) (h : Us w B A s) (h' : Us w B A' t) :
    Calls Tryd.prog 14 #[.slice A n c, .slice A' n' c'] w (QRet (∀ i, Bst.mem s i = Bst.mem t i) w) := by
  have H1 := hid (p_Inside A n c A' n' c' s t hn hn' hm hm' hok hok' B w hB h h')
  have H2 := hid (fun (w1 : World) (hb : Below w.heap.size w w1) => p_Inside A' n' c' A n c t s hn' hn hm' hm hok' hok B w1 (Nat.le_trans hB hb.size) (h'.below hb hB) (h.below hb hB))
  have Hiff := hid (same_iff5 (s := s) (t := t))
  generalize (∀ i, Bst.mem s i = true → Bst.mem t i = true) = p at *
  generalize (∀ i, Bst.mem t i = true → Bst.mem s i = true) = q at *
  generalize (∀ i, Bst.mem s i = Bst.mem t i) = r at *
  unfold QRet at H1 H2
  clear h h'
  go_enter Tryd.func14, Tryd.ntmps14
  go_wp2_with fail
  refine (H1.out).mono ?_
  rintro e w1 ⟨b1, rfl, hb1, hB1⟩
  have Hb1 := hid hb1
  clear hb1
  cases b1 with
  | false =>
    go_wp2_with fail
    go_ret
    exact ⟨false, rfl, ⟨fun h => (by cases h), fun h => Hb1.out.2 (Hiff.out.1 h).1⟩, hB1⟩
  | true =>
    have H3 := hid (H2.out w1 hB1)
    go_wp2_with fail
    refine (H3.out).mono ?_
    rintro e w2 ⟨b2, rfl, hb2, hB2⟩
    have Hb2 := hid hb2
    clear hb2
    go_wp2_with fail
    go_ret
    exact ⟨b2, rfl, ⟨fun h => Hiff.out.2 ⟨(by first | exact Hb1.out.1 rfl | exact Hb1.out.1 trivial), Hb2.out.1 h⟩, fun h => Hb2.out.2 (Hiff.out.1 h).2⟩, below2 hB1 hB2⟩

/-! ### Clone -/
theorem run_eqlIn_slice_nil {P : Program} (w : World) (d : Nat) (t e : TypeId) (a : Option Addr) (l c : Nat) (h : P.underlying t = some (.slice e)) : (Op.equalIn (d + 1) t (.slice a l c) (.slice none 0 0)).run P w = .ok a.isNone w := by
  cases a <;> simp [Op.equalIn, run_underlying h]
theorem run_eq_slice_nil {P : Program} (w : World) (t e : TypeId) (a : Option Addr) (l c : Nat) (h : P.underlying t = some (.slice e)) : (binOp .eql t (.slice a l c) (.slice none 0 0)).run P w = .ok (.bool a.isNone) w := by
  have h1 : (Op.equal t (.slice a l c) (.slice none 0 0)).run P w = .ok a.isNone w := run_eqlIn_slice_nil w 9999 t e a l c h
  simp only [binOp]
  simp [h1]
theorem src_us {P : Program} (w : World) {e' tx : TypeId} (hk : P.underlying tx = some (.slice e')) {B : Nat} {A : Option Addr} {n c : Nat} {l : List Nat} (hn : l.length = n) (h : Us w B A l) : Src P 1 tx (.slice A n c) n (l.map ucell) w := by
  by_cases hl : l = []
  · subst hl
    obtain rfl : n = 0 := hn.symm
    cases A with
    | none => exact Src.ofNil w hk c
    | some a => exact Src.ofSlice w hk a 0 c [] rfl (fun j u hu => by cases hu) (fun u hu => by cases hu)
  · obtain ⟨ad, rfl, _, hc⟩ := h (by intro e; exact hl (List.map_eq_nil_iff.1 e))
    refine Src.ofSlice w hk ad n c (l.map ucell) (by rw [List.length_map, hn, Nat.mul_one]) hc ?_
    intro u hu
    obtain ⟨_, _, rfl⟩ := List.mem_map.1 hu
    rfl
theorem own_cap {w : World} {base : Nat} {e : TypeId} {A : Option Addr} {n c : Nat} {xs : List Value} (h : w.ownsRow base e 1 (.slice A n c) n xs) : n ≤ c := by
  obtain ⟨A1, c1, he, _, hc⟩ := own_rd h
  injection he with _ _ he
  rw [he]; exact hc
/-- hands out a row of its own: these words -/
def WordsRet (l : List Nat) (w : World) (e : Ending) (w' : World) : Prop := ∃ A c, e = .returned (.slice A l.length c) ∧ w'.ownsRow w.heap.size 35 1 (.slice A l.length c) l.length (l.map ucell) ∧ l.length ≤ c ∧ Below w.heap.size w w'

set_option maxHeartbeats 1000000 in
theorem p_Clone (A : Option Addr) (n c : Nat) (s : List Nat) (hn : s.length = n) (hm : n ≤ 100000) (B : Nat) (w : World) (hB : B ≤ w.heap.size) (h : Us w B A s) :
    Calls Tryd.prog 22 #[.slice A n c] w (WordsRet s w) := by
  subst hn
  cases A with
  | none =>
    have hs : s = [] := by
      cases s with
      | nil => rfl
      | cons x r => obtain ⟨ad, e, _⟩ := h (by simp); cases e
    subst hs
    clear h
    have Heq := run_eq_slice_nil (P := Tryd.prog) w 22 35 none 0 c Tryd.underlying22
    go_enter Tryd.func22, Tryd.ntmps22
    go_wp2_with fail
    go_ret
    exact ⟨none, 0, rfl, World.ownsRow_nil _ _ _ _, Nat.le_refl _, Below.refl _ _⟩
  | some a =>
    obtain ⟨i0, hi, hz0, hz1, hz2⟩ := info_parts Tryd.info_u64
    have q1 : 0 + s.length ≤ maxLen := by unfold maxLen; omega
    have q2 : (0 + s.length) * 8 ≤ 140737488355328 := by omega
    have hb0 := below_alloc w (.cells #[] 35)
    have S0 := src_us (P := Tryd.prog) (w.alloc (.cells #[] 35)) Tryd.underlying22 (c := c) rfl (h.below hb0 hB)
    have hown0 : (w.alloc (.cells #[] 35)).ownsRow w.heap.size 35 1 (.slice (some ⟨w.heap.size, 0, none⟩) 0 0) 0 [] := World.ownsRow_lit (base := w.heap.size) (e := 35) (size := 1) w #[] 0 (Nat.le_refl _) (by unfold maxLen; omega) rfl
    clear h
    have Heq := run_eq_slice_nil (P := Tryd.prog) w 22 35 (some a) s.length c Tryd.underlying22
    go_enter Tryd.func22, Tryd.ntmps22
    go_wp2_with (at_builtin; refine wpList_append_own_src rfl _ _ 22 22 rfl w.heap.size 35 i0 (.int .u64 0) 8 Tryd.underlying22 hi hz0 hz1 hz2 rfl w.heap.size 0 _ [] rfl hown0 _ _ _ rfl S0 q1 q2 hb0.size ?_; intro g1 cp1 w1 hown1 hgr1)
    have hb : Below w.heap.size w w1 := hb0.grown hgr1 hb0.size (fun k hk => by have := (hown0.lt k hk).1; exact this)
    rw [Nat.zero_add, List.nil_append] at hown1
    go_ret
    exact ⟨_, _, rfl, hown1, own_cap hown1, hb⟩
end Go.Proofs.YteejccppdmjlaaaDoor

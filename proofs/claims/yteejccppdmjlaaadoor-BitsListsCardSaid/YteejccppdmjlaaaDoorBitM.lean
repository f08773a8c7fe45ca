/- Mathematics of layer 5: how many bits of a word are 1, as math/bits counts them. No program is spoken of here. -/
import Derived.Test.YteejccppdmjlaaaDoorSetM
namespace Go.Proofs.YteejccppdmjlaaaDoor.Bst

/-- a number of these bytes, the lowest one first -/
def joinB : List Nat → Nat
  | [] => 0
  | b :: r => 256 * joinB r + b
def bytesB : Nat → Nat → List Nat
  | 0, _ => []
  | k + 1, x => x % 256 :: bytesB k (x / 256)
theorem bytesB_len (k x : Nat) : (bytesB k x).length = k := by
  induction k generalizing x with
  | zero => rfl
  | succ k ih => show (bytesB k (x / 256)).length + 1 = _; rw [ih]
theorem bytesB_lt (k x : Nat) : ∀ b ∈ bytesB k x, b < 256 := by
  induction k generalizing x with
  | zero => intro b hb; cases hb
  | succ k ih =>
    intro b hb
    rcases List.mem_cons.1 hb with rfl | hb
    · omega
    · exact ih _ b hb
theorem join_bytes (k x : Nat) (h : x < 256 ^ k) : joinB (bytesB k x) = x := by
  induction k generalizing x with
  | zero => rw [Nat.pow_zero] at h; show 0 = x; omega
  | succ k ih =>
    show 256 * joinB (bytesB k (x / 256)) + x % 256 = x
    rw [ih _ (by rw [Nat.pow_succ] at h; omega)]
    omega
theorem and_low (X M b m : Nat) (hb : b < 256) (hm : m < 256) : (256 * X + b) &&& (256 * M + m) = 256 * (X &&& M) + (b &&& m) := by
  apply Nat.eq_of_testBit_eq
  intro j
  have hbm : b &&& m < 2 ^ 8 := Nat.lt_of_le_of_lt Nat.and_le_left hb
  have h1 := Nat.testBit_two_pow_mul_add (i := 8) X (b := b) hb j
  have h2 := Nat.testBit_two_pow_mul_add (i := 8) M (b := m) hm j
  have h3 := Nat.testBit_two_pow_mul_add (i := 8) (X &&& M) hbm j
  change (256 * X + b).testBit j = _ at h1
  change (256 * M + m).testBit j = _ at h2
  change (256 * (X &&& M) + (b &&& m)).testBit j = _ at h3
  rw [Nat.testBit_and, h1, h2, h3]
  split
  · rw [Nat.testBit_and]
  · rw [Nat.testBit_and]
def rep (m : Nat) (k : Nat) : Nat := joinB (List.replicate k m)
theorem rep_succ (m k : Nat) : rep m (k + 1) = 256 * rep m k + m := rfl
theorem and_rep (m : Nat) (hm : m < 256) (bs : List Nat) (h : ∀ b ∈ bs, b < 256) : joinB bs &&& rep m bs.length = joinB (bs.map (· &&& m)) := by
  induction bs with
  | nil => exact Nat.zero_and _
  | cons b r ih =>
    show (256 * joinB r + b) &&& (256 * rep m r.length + m) = 256 * joinB (r.map (· &&& m)) + (b &&& m)
    rw [and_low _ _ _ _ (h b (List.mem_cons_self ..)) hm, ih fun b hb => h b (List.mem_cons_of_mem _ hb)]
/-- shifted, and masked by what a shift brings in from the next byte -/
theorem shr_rep (s m : Nat) (hs : s ≤ 8) (hm : m < 2 ^ (8 - s)) (bs : List Nat) (h : ∀ b ∈ bs, b < 256) : joinB bs / 2 ^ s &&& rep m bs.length = joinB (bs.map (fun b => b / 2 ^ s &&& m)) := by
  have e : 2 ^ (8 - s) * 2 ^ s = 256 := by rw [← Nat.pow_add, Nat.sub_add_cancel hs]
  have hp : 0 < 2 ^ s := Nat.pow_pos (by decide)
  have hp2 : 0 < 2 ^ (8 - s) := Nat.pow_pos (by decide)
  have hm2 : m < 256 := by
    have : 2 ^ (8 - s) ≤ 2 ^ 8 := Nat.pow_le_pow_right (by decide) (by omega)
    omega
  induction bs with
  | nil => show 0 / 2 ^ s &&& 0 = 0; rw [Nat.and_zero]
  | cons b r ih =>
    have hb := h b (List.mem_cons_self ..)
    show (256 * joinB r + b) / 2 ^ s &&& (256 * rep m r.length + m) = 256 * joinB (r.map (fun b => b / 2 ^ s &&& m)) + (b / 2 ^ s &&& m)
    have e1 : (256 * joinB r + b) / 2 ^ s = 256 * (joinB r / 2 ^ s) + (2 ^ (8 - s) * (joinB r % 2 ^ s) + b / 2 ^ s) := by
      have e2 : 256 * joinB r + b = 2 ^ s * (2 ^ (8 - s) * joinB r) + b := by rw [← Nat.mul_assoc, Nat.mul_comm (2 ^ s), e]
      rw [e2, Nat.mul_add_div hp]
      have e3 : 2 ^ (8 - s) * joinB r = 256 * (joinB r / 2 ^ s) + 2 ^ (8 - s) * (joinB r % 2 ^ s) := by
        conv => lhs; rw [← Nat.div_add_mod (joinB r) (2 ^ s)]
        rw [Nat.mul_add, ← Nat.mul_assoc, e]
      omega
    have hq : b / 2 ^ s < 2 ^ (8 - s) := Nat.div_lt_of_lt_mul (by rw [Nat.mul_comm, e]; exact hb)
    have hr : joinB r % 2 ^ s < 2 ^ s := Nat.mod_lt _ hp
    have hlow : 2 ^ (8 - s) * (joinB r % 2 ^ s) + b / 2 ^ s < 256 := by
      have : 2 ^ (8 - s) * (joinB r % 2 ^ s) + 2 ^ (8 - s) ≤ 2 ^ (8 - s) * 2 ^ s := by
        rw [← Nat.mul_succ]; exact Nat.mul_le_mul_left _ hr
      omega
    rw [e1, and_low _ _ _ _ hlow hm2, ih fun b hb => h b (List.mem_cons_of_mem _ hb)]
    congr 1
    apply Nat.eq_of_testBit_eq
    intro j
    rw [Nat.testBit_and, Nat.testBit_and, Nat.testBit_two_pow_mul_add _ hq]
    split
    · rfl
    · rename_i hj
      rw [Nat.testBit_lt_two_pow (x := m) (Nat.lt_of_lt_of_le hm (Nat.pow_le_pow_right (by decide) (by omega))), Bool.and_false, Bool.and_false]
theorem add_join (bs : List Nat) (f g : Nat → Nat) : joinB (bs.map f) + joinB (bs.map g) = joinB (bs.map (fun b => f b + g b)) := by
  induction bs with
  | nil => rfl
  | cons b r ih =>
    show (256 * joinB (r.map f) + f b) + (256 * joinB (r.map g) + g b) = 256 * joinB (r.map (fun b => f b + g b)) + (f b + g b)
    rw [← ih]
    omega
/-- the two halves of each byte, one added to the other -/
theorem nib_rep (bs : List Nat) (h : ∀ b ∈ bs, b / 16 ≤ 4 ∧ b % 16 ≤ 4) : (joinB bs / 16 + joinB bs) &&& rep 15 bs.length = joinB (bs.map (fun b => b / 16 + b % 16)) ∧ joinB bs % 16 ≤ 4 := by
  induction bs with
  | nil => exact ⟨rfl, by decide⟩
  | cons b r ih =>
    have hb := h b (List.mem_cons_self ..)
    obtain ⟨i1, i2⟩ := ih fun b hb => h b (List.mem_cons_of_mem _ hb)
    constructor
    · show ((256 * joinB r + b) / 16 + (256 * joinB r + b)) &&& (256 * rep 15 r.length + 15) = 256 * joinB (r.map (fun b => b / 16 + b % 16)) + (b / 16 + b % 16)
      have e1 : (256 * joinB r + b) / 16 + (256 * joinB r + b) = 256 * (joinB r / 16 + joinB r) + (b / 16 + b + 16 * (joinB r % 16)) := by omega
      rw [e1, and_low _ _ _ _ (by omega) (by decide), i1]
      congr 1
      rw [show (15 : Nat) = 2 ^ 4 - 1 from rfl, Nat.and_two_pow_sub_one_eq_mod]
      show (b / 16 + b + 16 * (joinB r % 16)) % 16 = _
      omega
    · show (256 * joinB r + b) % 16 ≤ 4
      omega
def popB (b : Nat) : Nat := ((List.range 8).filter b.testBit).length
def g1 (b : Nat) : Nat := (b / 2 ^ 1 &&& 85) + (b &&& 85)
def g2 (b : Nat) : Nat := (b / 2 ^ 2 &&& 51) + (b &&& 51)
theorem g_small : ∀ b < 256, g1 b < 256 ∧ g2 (g1 b) < 256 ∧ g2 (g1 b) / 16 ≤ 4 ∧ g2 (g1 b) % 16 ≤ 4 ∧ g2 (g1 b) / 16 + g2 (g1 b) % 16 = popB b := by decide +kernel
/-- so many of a word's bits, byte by byte -/
theorem pop_bytes (bs : List Nat) (h : ∀ b ∈ bs, b < 256) : ((List.range (8 * bs.length)).filter (joinB bs).testBit).length = (bs.map popB).sum := by
  induction bs with
  | nil => rfl
  | cons b r ih =>
    have hb := h b (List.mem_cons_self ..)
    have hbit : ∀ j, (joinB (b :: r)).testBit j = if j < 8 then b.testBit j else (joinB r).testBit (j - 8) := fun j => Nat.testBit_two_pow_mul_add (i := 8) (joinB r) (b := b) hb j
    rw [List.map_cons, List.sum_cons, ← ih fun b hb => h b (List.mem_cons_of_mem _ hb), List.length_cons, show 8 * (r.length + 1) = 8 + 8 * r.length by omega, List.range_add, List.filter_append, List.length_append, List.filter_map, List.length_map]
    congr 1
    · unfold popB
      congr 1
      apply List.filter_congr
      intro j hj
      rw [hbit, if_pos (List.mem_range.1 hj)]
    · congr 1
      apply List.filter_congr
      intro j _
      show (joinB (b :: r)).testBit (8 + j) = _
      rw [hbit, if_neg (by omega)]
      congr 1
      omega
/-- the words of the count, one behind the other -/
def c1 (x : Nat) : Nat := (x / 2 ^ 1 &&& 6148914691236517205) + (x &&& 6148914691236517205)
def c2 (x : Nat) : Nat := (x / 2 ^ 2 &&& 3689348814741910323) + (x &&& 3689348814741910323)
def c3 (x : Nat) : Nat := (x / 16 + x) &&& 1085102592571150095
def c4 (x : Nat) : Nat := x + x / 256
def c5 (x : Nat) : Nat := x + x / 65536
def c6 (x : Nat) : Nat := x + x / 4294967296
theorem rep_a : rep 85 8 = 6148914691236517205 := by decide +kernel
theorem rep_b : rep 51 8 = 3689348814741910323 := by decide +kernel
theorem rep_c : rep 15 8 = 1085102592571150095 := by decide +kernel
theorem map_lt {bs : List Nat} {f : Nat → Nat} (h : ∀ b ∈ bs, f b < 256) : ∀ b ∈ bs.map f, b < 256 := by
  intro b hb
  obtain ⟨a, ha, rfl⟩ := List.mem_map.1 hb
  exact h a ha
theorem c1_join (bs : List Nat) (hl : bs.length = 8) (h : ∀ b ∈ bs, b < 256) : c1 (joinB bs) = joinB (bs.map g1) := by
  unfold c1
  rw [← rep_a, ← hl, shr_rep 1 85 (by decide) (by decide) bs h, and_rep 85 (by decide) bs h, add_join]
  rfl
theorem c2_join (bs : List Nat) (hl : bs.length = 8) (h : ∀ b ∈ bs, b < 256) : c2 (joinB bs) = joinB (bs.map g2) := by
  unfold c2
  rw [← rep_b, ← hl, shr_rep 2 51 (by decide) (by decide) bs h, and_rep 51 (by decide) bs h, add_join]
  rfl
theorem c3_join (bs : List Nat) (hl : bs.length = 8) (h : ∀ b ∈ bs, b / 16 ≤ 4 ∧ b % 16 ≤ 4) : c3 (joinB bs) = joinB (bs.map (fun b => b / 16 + b % 16)) := by
  unfold c3
  rw [← rep_c, ← hl]
  exact (nib_rep bs h).1
theorem popB_le (b : Nat) : popB b ≤ 8 := by
  unfold popB
  have := List.length_filter_le b.testBit (List.range 8)
  rwa [List.length_range] at this
theorem c_bounds (x : Nat) (hx : x < 18446744073709551616) : c1 x < 18446744073709551616 ∧ c2 (c1 x) < 18446744073709551616 ∧ c2 (c1 x) / 16 + c2 (c1 x) < 18446744073709551616 ∧ ∃ a b c d e f g h : Nat, c3 (c2 (c1 x)) = a + 256 * b + 65536 * c + 16777216 * d + 4294967296 * e + 1099511627776 * f + 281474976710656 * g + 72057594037927936 * h ∧ a ≤ 8 ∧ b ≤ 8 ∧ c ≤ 8 ∧ d ≤ 8 ∧ e ≤ 8 ∧ f ≤ 8 ∧ g ≤ 8 ∧ h ≤ 8 ∧ pop x = a + b + c + d + e + f + g + h := by
  have hj := join_bytes 8 x (by rw [show (256 : Nat) ^ 8 = 18446744073709551616 by decide]; exact hx)
  have hl := bytesB_len 8 x
  have hb := bytesB_lt 8 x
  have hpop := pop_bytes _ hb
  rw [hl, hj] at hpop
  rw [← hj] at hx ⊢
  have h1 : ∀ b ∈ (bytesB 8 x).map g1, b < 256 := map_lt fun b h => (g_small b (hb b h)).1
  have h2 : ∀ b ∈ ((bytesB 8 x).map g1).map g2, b < 256 := by
    rw [List.map_map]
    exact map_lt fun b h => (g_small b (hb b h)).2.1
  have h3 : ∀ b ∈ ((bytesB 8 x).map g1).map g2, b / 16 ≤ 4 ∧ b % 16 ≤ 4 := by
    rw [List.map_map]
    intro b h
    obtain ⟨a, ha, rfl⟩ := List.mem_map.1 h
    have := g_small a (hb a ha)
    exact ⟨this.2.2.1, this.2.2.2.1⟩
  rw [c1_join _ hl hb, c2_join _ (by rw [List.length_map, hl]) h1, c3_join _ (by rw [List.length_map, List.length_map, hl]) h3]
  have e4 : (((bytesB 8 x).map g1).map g2).map (fun b => b / 16 + b % 16) = (bytesB 8 x).map popB := by
    rw [List.map_map, List.map_map]
    apply List.map_congr_left
    intro b h
    exact (g_small b (hb b h)).2.2.2.2
  have hn : ∀ b ∈ ((bytesB 8 x).map g1).map g2, b ≤ 68 := fun b h => by have := h3 b h; omega
  rw [e4]
  rw [hj]
  generalize hbs : bytesB 8 x = bs at *
  clear h2 h3 e4 hx hj
  match bs, hl with
  | [b0, b1, b2, b3, b4, b5, b6, b7], _ =>
    simp only [List.map_cons, List.map_nil, List.mem_cons, List.not_mem_nil, or_false, forall_eq_or_imp, forall_eq, joinB, List.sum_cons, List.sum_nil, Nat.add_zero] at *
    have p0 := popB_le b0
    have p1 := popB_le b1
    have p2 := popB_le b2
    have p3 := popB_le b3
    have p4 := popB_le b4
    have p5 := popB_le b5
    have p6 := popB_le b6
    have p7 := popB_le b7
    refine ⟨?_, ?_, ?_, popB b0, popB b1, popB b2, popB b3, popB b4, popB b5, popB b6, popB b7, ?_, p0, p1, p2, p3, p4, p5, p6, p7, ?_⟩
    · omega
    · omega
    · omega
    · omega
    · unfold pop
      rw [show 8 * 8 = 64 from rfl] at hpop
      rw [hpop]
      omega
theorem c_end (x : Nat) (hx : x < 18446744073709551616) : c4 (c3 (c2 (c1 x))) < 18446744073709551616 ∧ c5 (c4 (c3 (c2 (c1 x)))) < 18446744073709551616 ∧ c6 (c5 (c4 (c3 (c2 (c1 x))))) < 9223372036854775808 ∧ c6 (c5 (c4 (c3 (c2 (c1 x))))) % 128 = pop x := by
  obtain ⟨_, _, _, a, b, c, d, e, f, g, h, hc, ha, hb, hc', hd, he, hf, hg, hh, hp⟩ := c_bounds x hx
  rw [hp, hc]
  clear hp hc
  have e4 : c4 (a + 256 * b + 65536 * c + 16777216 * d + 4294967296 * e + 1099511627776 * f + 281474976710656 * g + 72057594037927936 * h) = (a + b) + 256 * (b + c) + 65536 * (c + d) + 16777216 * (d + e) + 4294967296 * (e + f) + 1099511627776 * (f + g) + 281474976710656 * (g + h) + 72057594037927936 * h := by
    unfold c4; omega
  rw [e4]
  obtain ⟨s0, q0⟩ : ∃ s, a + b = s := ⟨_, rfl⟩
  obtain ⟨s1, q1⟩ : ∃ s, b + c = s := ⟨_, rfl⟩
  obtain ⟨s2, q2⟩ : ∃ s, c + d = s := ⟨_, rfl⟩
  obtain ⟨s3, q3⟩ : ∃ s, d + e = s := ⟨_, rfl⟩
  obtain ⟨s4, q4⟩ : ∃ s, e + f = s := ⟨_, rfl⟩
  obtain ⟨s5, q5⟩ : ∃ s, f + g = s := ⟨_, rfl⟩
  obtain ⟨s6, q6⟩ : ∃ s, g + h = s := ⟨_, rfl⟩
  have hsum : a + b + c + d + e + f + g + h = s0 + s2 + s4 + s6 := by omega
  rw [hsum, q0, q1, q2, q3, q4, q5, q6]
  have r0 : s0 ≤ 16 := by omega
  have r1 : s1 ≤ 16 := by omega
  have r2 : s2 ≤ 16 := by omega
  have r3 : s3 ≤ 16 := by omega
  have r4 : s4 ≤ 16 := by omega
  have r5 : s5 ≤ 16 := by omega
  have r6 : s6 ≤ 16 := by omega
  clear q0 q1 q2 q3 q4 q5 q6 hsum e4 ha hb hc' hd he hf hg
  have e5 : c5 (s0 + 256 * s1 + 65536 * s2 + 16777216 * s3 + 4294967296 * s4 + 1099511627776 * s5 + 281474976710656 * s6 + 72057594037927936 * h) = (s0 + s2) + 256 * (s1 + s3) + 65536 * (s2 + s4) + 16777216 * (s3 + s5) + 4294967296 * (s4 + s6) + 1099511627776 * (s5 + h) + 281474976710656 * s6 + 72057594037927936 * h := by
    unfold c5; omega
  rw [e5]
  have e6 : c6 ((s0 + s2) + 256 * (s1 + s3) + 65536 * (s2 + s4) + 16777216 * (s3 + s5) + 4294967296 * (s4 + s6) + 1099511627776 * (s5 + h) + 281474976710656 * s6 + 72057594037927936 * h) = (s0 + s2 + (s4 + s6)) + 256 * (s1 + s3 + (s5 + h)) + 65536 * (s2 + s4 + s6) + 16777216 * (s3 + s5 + h) + 4294967296 * (s4 + s6) + 1099511627776 * (s5 + h) + 281474976710656 * s6 + 72057594037927936 * h := by
    unfold c6; omega
  rw [e6]
  refine ⟨by omega, by omega, by omega, by omega⟩
end Go.Proofs.YteejccppdmjlaaaDoor.Bst

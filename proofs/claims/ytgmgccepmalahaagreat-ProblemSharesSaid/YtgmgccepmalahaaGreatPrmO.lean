/- What two classes' persons have in common: the program's row and the document's are one. -/
import Derived.Test.YtgmgccepmalahaaGreatPrmN
import Derived.Test.YtgmgccepmalahaaGreatPrbQ
import Derived.Test.YtgmgccepmalahaaGreatPqK
namespace Go.Proofs.YtgmgccepmalahaaGreat
open Go.RowKit
open Whn (Gr Wh)

theorem rising_ext : ∀ {a b : List Int}, a.Pairwise (· < ·) → b.Pairwise (· < ·) → (∀ z, z ∈ a ↔ z ∈ b) → a = b
  | [], [], _, _, _ => rfl
  | [], y :: b, _, _, h => absurd ((h y).2 List.mem_cons_self) (List.not_mem_nil)
  | x :: a, [], _, _, h => absurd ((h x).1 List.mem_cons_self) (List.not_mem_nil)
  | x :: a, y :: b, ha, hb, h => by
    obtain ⟨h1, h2⟩ := List.pairwise_cons.1 ha
    obtain ⟨h3, h4⟩ := List.pairwise_cons.1 hb
    have hxy : x = y := by
      rcases List.mem_cons.1 ((h x).1 List.mem_cons_self) with e | e
      · exact e
      · rcases List.mem_cons.1 ((h y).2 List.mem_cons_self) with e2 | e2
        · exact e2.symm
        · have := h3 x e
          have := h1 y e2
          omega
    subst hxy
    congr 1
    refine rising_ext h2 h4 fun z => ⟨fun hz => ?_, fun hz => ?_⟩
    · rcases List.mem_cons.1 ((h z).1 (List.mem_cons_of_mem _ hz)) with e | e
      · have := h1 z hz; omega
      · exact e
    · rcases List.mem_cons.1 ((h z).2 (List.mem_cons_of_mem _ hz)) with e | e
      · have := h3 z hz; omega
      · exact e
theorem ris_pw {l : List Int} {n : Int} (h : risingB l n = true) : l.Pairwise (· < ·) := by
  rw [List.pairwise_iff_getElem]
  intro i j hi hj hij
  have := rising_lt h j i hij hj
  rw [List.getD_eq_getElem?_getD, List.getD_eq_getElem?_getD, List.getElem?_eq_getElem hi, List.getElem?_eq_getElem hj] at this
  exact this
theorem ris_in {l : List Int} {n : Int} (h : risingB l n = true) : ∀ z ∈ l, 0 ≤ z ∧ z < n := fun z hz => by
  obtain ⟨i, hi, rfl⟩ := List.mem_iff_getElem.1 hz
  unfold risingB at h
  rw [List.all_eq_true] at h
  have ho := h i (List.mem_range.2 hi)
  unfold okR at ho
  rw [Bool.and_eq_true, Bool.and_eq_true, decide_eq_true_iff, decide_eq_true_iff, List.getD_eq_getElem?_getD, List.getElem?_eq_getElem hi] at ho
  exact ho.1
theorem ris_len {l : List Int} {n : Int} (h : risingB l n = true) : (l.length : Int) ≤ max n 0 := by
  have key : ∀ i, i < l.length → (i : Int) ≤ l.getD i 0 := by
    intro i
    induction i with
    | zero =>
      intro hi
      have := (ris_in h (l.getD 0 0) (by rw [List.getD_eq_getElem?_getD, List.getElem?_eq_getElem hi]; exact List.getElem_mem hi)).1
      omega
    | succ i ih =>
      intro hi
      have h1 := ih (by omega)
      have h2 := rising_lt h (i + 1) i (by omega) hi
      omega
  rcases Nat.eq_zero_or_pos l.length with h0 | h0
  · omega
  · have h1 := key (l.length - 1) (by omega)
    have h2 := (ris_in h (l.getD (l.length - 1) 0) (by rw [List.getD_eq_getElem?_getD, List.getElem?_eq_getElem (show l.length - 1 < l.length by omega)]; exact List.getElem_mem _)).2
    omega
theorem prs_ris {l : List Cl} {n : Int} (h : ∀ y ∈ l, risingB y.p n = true) (c : Int) : risingB (prs17 l c) n = true := by
  unfold prs17
  split
  · rename_i hc
    have hk : c.toNat < l.length := by omega
    rw [List.getD_eq_getElem?_getD, List.getElem?_eq_getElem hk]
    exact h _ (List.getElem_mem hk)
  · rfl
theorem tch_prs (l : List Cl) (n c : Int) : tchB l n c = decide (n ∈ prs17 l c) := by
  unfold tchB prs17
  by_cases hc : 0 ≤ c ∧ c < (l.length : Nat)
  · rw [decide_eq_true hc, if_pos hc, Bool.true_and]
  · rw [decide_eq_false hc, if_neg hc, Bool.false_and]; simp
theorem shr_ris (l : List Cl) (a b : Int) (k : Nat) : (shrN l a b k).Pairwise (· < ·) := by
  unfold shrN
  refine List.Pairwise.filter _ ?_
  rw [List.pairwise_map]
  exact List.pairwise_lt_range.imp fun h => by omega
theorem shr_mem (l : List Cl) (a b : Int) (k : Nat) (z : Int) : z ∈ shrN l a b k ↔ (0 ≤ z ∧ z < (k : Int)) ∧ z ∈ prs17 l a ∧ z ∈ prs17 l b := by
  unfold shrN
  rw [List.mem_filter, List.mem_map, tch_prs, tch_prs, Bool.and_eq_true, decide_eq_true_iff, decide_eq_true_iff]
  constructor
  · rintro ⟨⟨i, hi, rfl⟩, h⟩
    have := List.mem_range.1 hi
    exact ⟨⟨by omega, by omega⟩, h⟩
  · rintro ⟨⟨h0, h1⟩, h⟩
    exact ⟨⟨z.toNat, List.mem_range.2 (by omega), by omega⟩, h⟩
theorem shr_one {l : List Cl} {n : Int} (hn : n ≤ 64) (h : ∀ y ∈ l, risingB y.p n = true) (a b : Int) {m : List Int} (hm : m.Pairwise (· < ·)) (hz : ∀ z, z ∈ m ↔ z ∈ prs17 l a ∧ z ∈ prs17 l b) : m = shrN l a b 64 := by
  refine rising_ext hm (shr_ris l a b 64) fun z => ?_
  rw [hz, shr_mem]
  constructor
  · intro hh
    have := ris_in (prs_ris h a) z hh.1
    exact ⟨⟨this.1, by omega⟩, hh⟩
  · exact fun hh => hh.2
theorem shr_comm (l : List Cl) (a b : Int) (k : Nat) : shrN l b a k = shrN l a b k := rising_ext (shr_ris l b a k) (shr_ris l a b k) fun z => by rw [shr_mem, shr_mem]; exact and_congr Iff.rfl And.comm
def SRet (L : List Int) (w : World) (e : Ending) (w' : World) : Prop := ∃ A c, e = .returned (.slice A L.length c) ∧ Its w' w'.heap.size A L ∧ Below w.heap.size w w'
theorem r_ShareS (x : PbA) (a b : Int) (w : World) (h : PbIn w x) : Calls Tryz.prog 36 #[pbv x, .int .i64 a, .int .i64 b] w (SRet (shrN (x.cl.map (·.x)) a b 64) w) :=
  (r17_Share x a b w h).mono fun _ _ ⟨v, he, ho, hb⟩ => by
    obtain ⟨A, c, rfl, hr, _⟩ := own_rdV (by rw [List.length_map]) ho
    exact ⟨A, c, he, hr, hb⟩
theorem p_ShareS (x : PbA) (a b : Int) (ha : I64 a) (hb : I64 b) (hps : x.ps.length ≤ 30) (hr : ∀ y ∈ x.cl, risingB y.x.p (x.ps.length : Nat) = true) (w : World) (h : PbIn w x) : Calls Tryz.prog 35 #[pbv x, .int .i64 a, .int .i64 b] w (SRet (shrN (x.cl.map (·.x)) a b 64) w) := by
  have hR : ∀ y ∈ x.cl.map (·.x), risingB y.p (x.ps.length : Nat) = true := fun y hy => by
    obtain ⟨z, hz, rfl⟩ := List.mem_map.1 hy
    exact hr z hz
  have ln : ∀ c, (prs17 (x.cl.map (·.x)) c).length ≤ 1000 := fun c => by
    have := ris_len (prs_ris hR c)
    omega
  have i64 : ∀ c, ∀ i ∈ prs17 (x.cl.map (·.x)) c, I64 i := fun c i hi => by
    have := ris_in (prs_ris hR c) i hi
    unfold I64; omega
  refine (p_Share17 x a b ha hb _ _ rfl rfl (ln a) (ln b) (i64 a) (i64 b) w h).mono fun _ _ ⟨v, m, he, ho, hp, hz, hbb⟩ => ?_
  obtain rfl := shr_one (n := (x.ps.length : Nat)) (by omega) hR a b hp hz
  obtain ⟨A, c, rfl, hrd, _⟩ := own_rdV (by rw [List.length_map]) ho
  exact ⟨A, c, he, hrd, hbb⟩
end Go.Proofs.YtgmgccepmalahaaGreat

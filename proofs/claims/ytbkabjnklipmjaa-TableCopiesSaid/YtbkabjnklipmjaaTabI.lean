/- Rows of what is done (layer 6); the law's made. -/
import Derived.Test.YtbkabjnklipmjaaTabH
namespace Go.Proofs.Ytbkabjnklipmjaa
open Go.RowKit Go.Shelf
open Tbm (Kv)

abbrev Opv := Int × List UInt8 × List UInt8
def ocell (o : Opv) : List Value := [.int .i64 o.1, txt o.2.1, txt o.2.2]
def ocells (l : List Opv) : List Value := l.flatMap ocell
theorem ocells_cons (o : Opv) (r : List Opv) : ocells (o :: r) = .int .i64 o.1 :: txt o.2.1 :: txt o.2.2 :: ocells r := rfl
theorem ocells_get (l : List Opv) (k : Nat) (o : Opv) (h : l[k]? = some o) : (ocells l)[k * 3]? = some (.int .i64 o.1) ∧ (ocells l)[k * 3 + 1]? = some (txt o.2.1) ∧ (ocells l)[k * 3 + 2]? = some (txt o.2.2) := by
  induction l generalizing k with
  | nil => cases h
  | cons q r ih =>
    cases k with
    | zero => injection h with h; subst h; exact ⟨rfl, rfl, rfl⟩
    | succ k =>
      obtain ⟨h1, h2, h3⟩ := ih k h
      rw [ocells_cons, show (k + 1) * 3 = k * 3 + 1 + 1 + 1 by omega]
      exact ⟨h1, h2, h3⟩
/-- a row of what is done that is read -/
abbrev Ops (w : World) (B : Nat) (A : Option Addr) (l : List Opv) : Prop := Rd w B A (ocells l)
theorem ocells_ne {l : List Opv} (h : l ≠ []) : ocells l ≠ [] := by
  cases l with
  | nil => exact absurd rfl h
  | cons p r => rw [ocells_cons]; simp
theorem Ops.get {w : World} {B : Nat} {A : Option Addr} {l : List Opv} (h : Ops w B A l) {k : Nat} (hk : k < l.length) : ∃ b o kd key val, A = some ⟨b, o, none⟩ ∧ b < B ∧ Hid (l[k]? = some (kd, key, val)) ∧ w.cell? ⟨b, o + k * 3, none⟩ = some (.int .i64 kd) ∧ w.cell? ⟨b, o + k * 3 + 1, none⟩ = some (txt key) ∧ w.cell? ⟨b, o + k * 3 + 2, none⟩ = some (txt val) := by
  obtain ⟨ad, e, hb, hc⟩ := h (ocells_ne (by intro e; subst e; simp at hk))
  obtain ⟨h1, h2, h3⟩ := ocells_get l k l[k] (List.getElem?_eq_getElem hk)
  have g1 := hc _ _ h1
  have g2 := hc _ _ h2
  have g3 := hc _ _ h3
  have g0 : ∃ v, w.cell? (ad.add 0) = some v := by
    cases l with
    | nil => simp at hk
    | cons p r => exact ⟨_, hc 0 _ rfl⟩
  obtain ⟨b, o, s⟩ := ad
  have hs : s = none := by
    obtain ⟨v, g0⟩ := g0
    exact World.cell?_spot (a := ⟨b, o, s⟩) (by simpa [Addr.add] using g0)
  subst hs
  exact ⟨b, o, l[k].1, l[k].2.1, l[k].2.2, e, hb, List.getElem?_eq_getElem hk, by simpa [Addr.add_lit] using g1, by simpa [Addr.add_lit, Nat.add_assoc] using g2, by simpa [Addr.add_lit, Nat.add_assoc] using g3⟩

/-- the map behind one thing done; behind many -/
def stepM (m : List Kv) (o : Opv) : List Kv := if o.1 = 1 then Tbm.put m o.2.1 o.2.2 else if o.1 = 2 then Tbm.del m o.2.1 else m
def madeM (l : List Opv) : List Kv := l.foldl stepM []
theorem madeM_next (l : List Opv) (k : Nat) (o : Opv) (h : l[k]? = some o) : madeM (l.take (k + 1)) = stepM (madeM (l.take k)) o := by
  unfold madeM
  rw [List.take_add_one, h, List.foldl_append]
  rfl
theorem stepM_srt {m : List Kv} (h : Tbm.Srt m) (o : Opv) : Tbm.Srt (stepM m o) := by
  unfold stepM
  split
  · exact h.put _ _
  · split
    · exact h.del _
    · exact h
theorem stepM_len {m : List Kv} (h : Tbm.Srt m) (o : Opv) : (stepM m o).length ≤ m.length + 1 := by
  unfold stepM
  split
  · rw [Tbm.len_put h]; split <;> omega
  · split
    · exact Nat.le_trans (List.length_filter_le _ _) (Nat.le_succ _)
    · omega
theorem madeM_facts (l : List Opv) (k : Nat) : Tbm.Srt (madeM (l.take k)) ∧ (madeM (l.take k)).length ≤ k := by
  induction k with
  | zero => rw [List.take_zero]; exact ⟨Tbm.srt_nil, Nat.le_refl _⟩
  | succ k ih =>
    cases h : l[k]? with
    | none =>
      rw [List.take_of_length_le (by rw [List.getElem?_eq_none_iff] at h; omega)]
      rw [List.take_of_length_le (by rw [List.getElem?_eq_none_iff] at h; omega)] at ih
      exact ⟨ih.1, by omega⟩
    | some o =>
      rw [madeM_next l k o h]
      exact ⟨stepM_srt ih.1 o, Nat.le_trans (stepM_len ih.1 o) (by omega)⟩

/-- the table, and beside it the document's row of the same pairs: neither lies in the other -/
def Two (n₀ : Nat) (w : World) (p : Nat) (A : Option Addr) (m : List Kv) : Prop := ∃ F, Tb w F p m ∧ (∀ k, F k → n₀ ≤ k) ∧ Prs w w.heap.size A m ∧ ∀ ad, A = some ad → ad.block < w.heap.size ∧ ¬ F ad.block
theorem Two.tb {n₀ : Nat} {w : World} {p : Nat} {A : Option Addr} {m : List Kv} (h : Two n₀ w p A m) : TbO n₀ w p m := by
  obtain ⟨F, h1, h2, _⟩ := h
  exact ⟨F, h1, h2⟩
theorem Two.prs {n₀ : Nat} {w : World} {p : Nat} {A : Option Addr} {m : List Kv} (h : Two n₀ w p A m) : Prs w w.heap.size A m := by
  obtain ⟨F, _, _, h3, _⟩ := h
  exact h3
theorem Two.below {n₀ : Nat} {w w' : World} {p : Nat} {A : Option Addr} {m : List Kv} (h : Two n₀ w p A m) (hb : Below w.heap.size w w') : Two n₀ w' p A m := by
  obtain ⟨F, h1, h2, h3, h4⟩ := h
  exact ⟨F, h1.below hb, h2, (h3.below hb (Nat.le_refl _)).more hb.size, fun ad e => ⟨Nat.lt_of_lt_of_le (h4 ad e).1 hb.size, (h4 ad e).2⟩⟩
/-- half way: the table is changed already, the row is not -/
def Half (n₀ : Nat) (w : World) (p : Nat) (A : Option Addr) (m m' : List Kv) : Prop := ∃ F, Tb w F p m' ∧ (∀ k, F k → n₀ ≤ k) ∧ Prs w w.heap.size A m
theorem Two.half {n₀ : Nat} {w w' : World} {p : Nat} {A : Option Addr} {m m' : List Kv} {F : Nat → Prop} (h3 : Prs w w.heap.size A m) (h4 : ∀ ad, A = some ad → ad.block < w.heap.size ∧ ¬ F ad.block) (h2 : ∀ k, F k → n₀ ≤ k) (hn : n₀ ≤ w.heap.size) (ht : TbTo F p m' w w') : Half n₀ w' p A m m' := by
  have hbl := fun ad e => ht.block (h4 ad e).1 (h4 ad e).2
  obtain ⟨⟨F', t1, t2⟩, hk⟩ := ht
  refine ⟨F', t1, fun k hk => by rcases t2 k hk with h | h; exact h2 k h; omega, (Rd.kept h3 hbl).more hk.size⟩
theorem Half.two {n₀ : Nat} {w w' : World} {p : Nat} {A A' : Option Addr} {m m' : List Kv} (h : Half n₀ w p A m m') (hb : Below w.heap.size w w') (hP : Prs w' w'.heap.size A' m') (hA : ∀ ad, A' = some ad → w.heap.size ≤ ad.block ∧ ad.block < w'.heap.size) : Two n₀ w' p A' m' := by
  obtain ⟨F, h1, h2, _⟩ := h
  exact ⟨F, h1.below hb, h2, hP, fun ad e => ⟨(hA ad e).2, fun hf => by have := h1.lt _ hf; have := (hA ad e).1; omega⟩⟩
theorem Half.below {n₀ : Nat} {w w' : World} {p : Nat} {A : Option Addr} {m m' : List Kv} (h : Half n₀ w p A m m') (hb : Below w.heap.size w w') : Half n₀ w' p A m m' := by
  obtain ⟨F, h1, h2, h3⟩ := h
  exact ⟨F, h1.below hb, h2, (h3.below hb (Nat.le_refl _)).more hb.size⟩
/-- both changed, one behind the other -/
theorem two_put {n₀ : Nat} {w : World} {p : Nat} {A : Option Addr} {m : List Kv} (h : Two n₀ w p A m) (hn : n₀ ≤ w.heap.size) (hm : m.length ≤ 10000) (key v : List UInt8) :
    Calls Try.prog 13 #[ptr p, txt key, txt v] w fun e w' => e = .returned (.tuple #[]) ∧ Half n₀ w' p A m (Tbm.put m key v) ∧ Below n₀ w w' := by
  obtain ⟨F, h1, h2, h3, h4⟩ := h
  refine (p_Put h1 hm key v).mono ?_
  rintro e w' ⟨he, ht⟩
  exact ⟨he, Two.half h3 h4 h2 hn ht, (ht.below h2 hn).1⟩
theorem two_del {n₀ : Nat} {w : World} {p : Nat} {A : Option Addr} {m : List Kv} (h : Two n₀ w p A m) (hn : n₀ ≤ w.heap.size) (hm : m.length ≤ 10000) (key : List UInt8) :
    Calls Try.prog 15 #[ptr p, txt key] w fun e w' => e = .returned (.bool (Tbm.get m key).isSome) ∧ Half n₀ w' p A m (Tbm.del m key) ∧ Below n₀ w w' := by
  obtain ⟨F, h1, h2, h3, h4⟩ := h
  refine (p_Delete h1 hm key).mono ?_
  rintro e w' ⟨he, ht⟩
  exact ⟨he, Two.half h3 h4 h2 hn ht, (ht.below h2 hn).1⟩
theorem half_put {n₀ : Nat} {w : World} {p : Nat} {A : Option Addr} {m : List Kv} (c : Nat) (hc : m.length ≤ c) (hm : m.length ≤ 10000) (key v : List UInt8) (h : Half n₀ w p A m (Tbm.put m key v)) (hn : n₀ ≤ w.heap.size) :
    Calls Try.prog 14 #[.slice A m.length c, txt key, txt v] w fun e w' => ∃ A' c', e = .returned (.slice A' (Tbm.put m key v).length c') ∧ (Tbm.put m key v).length ≤ c' ∧ Two n₀ w' p A' (Tbm.put m key v) ∧ Below n₀ w w' := by
  have hP := h
  obtain ⟨F, _, _, h3⟩ := hP
  refine (r_Put A m.length c m rfl hc (by omega) key v _ w (Nat.le_refl _) h3).mono ?_
  rintro e w' ⟨A', c', he, hp, hcc, hA, hb⟩
  exact ⟨A', c', he, hcc, h.two hb hp hA, hb.mono hn⟩
theorem half_del {n₀ : Nat} {w : World} {p : Nat} {A : Option Addr} {m : List Kv} (c : Nat) (hm : m.length ≤ 10000) (key : List UInt8) (h : Half n₀ w p A m (Tbm.del m key)) (hn : n₀ ≤ w.heap.size) :
    Calls Try.prog 16 #[.slice A m.length c, txt key] w fun e w' => ∃ A' c', e = .returned (.slice A' (Tbm.del m key).length c') ∧ (Tbm.del m key).length ≤ c' ∧ Two n₀ w' p A' (Tbm.del m key) ∧ Below n₀ w w' := by
  have hP := h
  obtain ⟨F, _, _, h3⟩ := hP
  refine (r_Delete A m.length c m rfl (by omega) key _ w (Nat.le_refl _) h3).mono ?_
  rintro e w' ⟨A', c', he, hp, hcc, hA, hb⟩
  exact ⟨A', c', he, hcc, h.two hb hp hA, hb.mono hn⟩

def MadeRet (l : List Opv) (w : World) (e : Ending) (w' : World) : Prop := ∃ p A c, e = .returned (.tuple #[ptr p, .slice A (madeM l).length c]) ∧ (madeM l).length ≤ c ∧ Two w.heap.size w' p A (madeM l) ∧ Below w.heap.size w w'

set_option maxRecDepth 20000 in
set_option maxHeartbeats 4000000 in
theorem l_made (A : Option Addr) (n c : Nat) (l : List Opv) (hn : l.length = n) (hm : n ≤ 1000) (B : Nat) (w : World) (hB : B ≤ w.heap.size) (h : Ops w B A l) :
    Calls Try.prog 20 #[.slice A n c] w (MadeRet l w) := by
  subst hn
  have H := hid h
  clear h
  go_enter Try.func20, Try.ntmps20
  go_wp2_with fail
  refine (o_New w).mono ?_
  rintro e w1 ⟨p, rfl, ⟨F0, t1, f1⟩, b1⟩
  have T0 : Two w.heap.size w1 p none [] := ⟨F0, t1, f1, Rd.none_ _ _ _, fun _ h => by cases h⟩
  clear t1 f1
  go_wp2_with fail
  go_loopw [5, 6] (fun sv iv wr => ∃ (k : Nat) (m : List Kv) (A1 : Option Addr) (c1 : Nat), iv = .int .i64 k ∧ k ≤ l.length ∧ Hid (m = madeM (l.take k)) ∧ sv = .slice A1 m.length c1 ∧ m.length ≤ c1 ∧ Two w.heap.size wr p A1 m ∧ Below w.heap.size w wr) (fun _ iv _ => l.length - (intOf iv).toNat)
  case atStart => exact ⟨0, [], none, 0, rfl, Nat.zero_le _, hid rfl, rfl, Nat.le_refl _, T0, b1⟩
  case round =>
    clear T0 b1
    obtain ⟨k, m, A1, c1, rfl, hk, hmm, rfl, hmc, hT, hb⟩ := hrel
    have hml : m.length ≤ k := by rw [hmm.out]; exact (madeM_facts l k).2
    by_cases hlt : k < l.length
    · obtain ⟨b0, o0, kd, key, vl, rfl, hbB, Hx, hc0, hc1, hc2⟩ := Ops.get (H.out.below hb hB) hlt
      have Hn := hid (madeM_next l k _ Hx.out)
      rw [← hmm.out] at Hn
      unfold stepM at Hn
      have i1 : (0 : Int) ≤ (k : Int) := by omega
      have i2 : (k : Int) < (l.length : Int) := by omega
      have hbs := hb.size
      by_cases h1 : kd = 1
      · subst h1
        rw [if_pos rfl] at Hn
        have C1 := hid (two_put (hT.below (Below.refl wr.heap.size wr).drew) hbs (by omega) key vl)
        have hd1 : wr.drew.cell? ⟨b0, o0 + k * 3 + 1, none⟩ = some (txt key) := hc1
        have hd2 : wr.drew.cell? ⟨b0, o0 + k * 3 + 2, none⟩ = some (txt vl) := hc2
        have hbw : b0 < w.heap.size := by omega
        go_wp2_with fail
        go_region_held3 (fun X => X.cell? ⟨b0, o0 + k * 3 + 1, none⟩ = some (txt key) ∧ X.cell? ⟨b0, o0 + k * 3 + 2, none⟩ = some (txt vl)) (first | exact ⟨hd1, hd2⟩ | exact hS2) (first | (go_at_call 13; refine (C1.out).mono ?_; rintro e w2 ⟨rfl, hH, hb2⟩; have hS2 := And.intro ((hb2.cell (p := ⟨b0, o0 + k * 3 + 1, none⟩) hbw).trans hd1) ((hb2.cell (p := ⟨b0, o0 + k * 3 + 2, none⟩) hbw).trans hd2)))
        have he1 : w2.drew.cell? ⟨b0, o0 + k * 3 + 1, none⟩ = some (txt key) := hS2.1
        have he2 : w2.drew.cell? ⟨b0, o0 + k * 3 + 2, none⟩ = some (txt vl) := hS2.2
        have hb2' : Below w.heap.size wr w2 := (Below.refl _ wr).drew.trans hb2
        have hb02 := hb.trans hb2'
        have C2 := hid (half_put c1 hmc (by omega) key vl (hH.below (Below.refl w2.heap.size w2).drew) hb02.size)
        have Hlen := hid (Tbm.len_put hT.tb.srt key vl)
        clear hS2
        go_wp2_with fail
        go_region_held3 (fun X => X.cell? ⟨b0, o0 + k * 3 + 1, none⟩ = some (txt key) ∧ X.cell? ⟨b0, o0 + k * 3 + 2, none⟩ = some (txt vl)) (first | exact ⟨he1, he2⟩ | exact hS3) (first | (go_at_call 14; refine (C2.out).mono ?_; rintro e w3 ⟨A3, c3, rfl, hc3, hT3, hb3⟩; have hS3 := And.intro ((hb3.cell (p := ⟨b0, o0 + k * 3 + 1, none⟩) hbw).trans he1) ((hb3.cell (p := ⟨b0, o0 + k * 3 + 2, none⟩) hbw).trans he2)))
        go_wp2_with fail
        refine ⟨⟨k + 1, Tbm.put m key vl, A3, c3, by go_num, by omega, hid Hn.out.symm, rfl, hc3, hT3, hb02.trans ((Below.refl _ w2).drew.trans hb3)⟩, by simp [intOf]; omega⟩
      · rw [if_neg h1] at Hn
        have hk1 : (kd == 1) = false := by rw [beq_eq_false_iff_ne]; exact h1
        by_cases h2 : kd = 2
        · subst h2
          rw [if_pos rfl] at Hn
          have C1 := hid (two_del hT hbs (by omega) key)
          clear h1 hk1
          go_wp2_with fail
          refine (C1.out).mono ?_
          rintro e w2 ⟨rfl, hH, hb2⟩
          have hb02 := hb.trans hb2
          have C2 := hid (half_del c1 (by omega) key hH hb02.size)
          have he1 := (hb2.cell (p := ⟨b0, o0 + k * 3 + 1, none⟩) (show b0 < w.heap.size by omega)).trans hc1
          go_wp2_with fail
          refine (C2.out).mono ?_
          rintro e w3 ⟨A3, c3, rfl, hc3, hT3, hb3⟩
          go_wp2_with fail
          refine ⟨⟨k + 1, Tbm.del m key, A3, c3, by go_num, by omega, hid Hn.out.symm, rfl, hc3, hT3, hb02.trans hb3⟩, by simp [intOf]; omega⟩
        · rw [if_neg h2] at Hn
          have hk2 : (kd == 2) = false := by rw [beq_eq_false_iff_ne]; exact h2
          clear h1 h2
          go_wp2_with fail
          refine ⟨⟨k + 1, m, A1, c1, by go_num, by omega, hid Hn.out.symm, rfl, hmc, hT, hb⟩, by simp [intOf]; omega⟩
    · obtain rfl : k = l.length := by omega
      have hm' := hid (hmm.out.trans (by rw [List.take_length]))
      go_wp2_with fail
      go_ret2
      exact ⟨p, A1, c1, by rw [hm'.out]; rfl, by rw [← hm'.out]; exact hmc, by rw [← hm'.out]; exact hT, hb⟩
end Go.Proofs.Ytbkabjnklipmjaa

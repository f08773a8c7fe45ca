/- Contracts of the program's own functions of layer 14 (course): Above. -/
import Derived.Test.YtgkplcipplpobaaCrtC
import Derived.Test.YtgkplcipplpobaaCrsF
namespace Go.Proofs.Ytgkplcipplpobaa
open Go.RowKit
open Whn (Gr Wh)

theorem few_int : ∀ (N : Nat) (xs : List Int), xs.Nodup → (∀ x ∈ xs, 0 ≤ x ∧ x < (N : Int)) → xs.length ≤ N
  | 0, xs, _, h => by
    cases xs with
    | nil => exact Nat.le_refl _
    | cons a t => have := h a List.mem_cons_self; omega
  | N + 1, xs, hn, h => by
    have h1 := few_int N (xs.erase (N : Int)) (hn.erase _) (fun x hx => by
      obtain ⟨h2, h3⟩ := (hn.mem_erase_iff).1 hx
      have := h x h3
      omega)
    rw [List.length_erase] at h1
    split at h1 <;> omega
/-- m steps up the way, none of which came back -/
def AbSt (l : List ClA) (n : Int) (m : Nat) : Prop := (n :: (abv l n m).2).Nodup ∧ (∀ z ∈ n :: (abv l n m).2, 0 ≤ z ∧ z < (l.length : Nat)) ∧ (abv l n m).2.length = m ∧ 0 ≤ (abv l n m).1 ∧ (abv l n m).1 < (l.length : Nat)
theorem AbSt.start {l : List ClA} {n : Int} (h : clB l.length n = true) : AbSt l n 0 := by
  unfold clB at h
  rw [Bool.and_eq_true, decide_eq_true_iff, decide_eq_true_iff] at h
  refine ⟨by simp [abv], fun z hz => ?_, rfl, h.1, h.2⟩
  have : z = n := by simpa [abv] using hz
  subst this
  exact h
theorem AbSt.lt {l : List ClA} {n : Int} {m : Nat} (h : AbSt l n m) : m < l.length := by
  obtain ⟨h1, h2, h3, _⟩ := h
  have := few_int l.length _ h1 h2
  rw [List.length_cons, h3] at this
  omega
theorem AbSt.go {l : List ClA} {n : Int} {m : Nat} (h : AbSt l n m) (h1 : 0 ≤ ovr l (abv l n m).1 ∧ ovr l (abv l n m).1 < (l.length : Nat)) (h2 : ovr l (abv l n m).1 ≠ n) (h3 : ovr l (abv l n m).1 ∉ (abv l n m).2) :
    abv l n (m + 1) = (ovr l (abv l n m).1, (abv l n m).2 ++ [ovr l (abv l n m).1]) ∧ AbSt l n (m + 1) := by
  obtain ⟨g1, g2, g3, g4, g5⟩ := h
  have e := abv_go l n m (by omega) (by
    rintro (h | h | h | h)
    · omega
    · omega
    · exact h2 h
    · exact h3 h)
  refine ⟨e, ?_⟩
  unfold AbSt
  rw [e]
  refine ⟨?_, fun z hz => ?_, by simp [g3], h1⟩
  · rw [← List.cons_append, List.nodup_append]
    refine ⟨g1, by simp, fun a ha b hb => ?_⟩
    rw [List.mem_singleton] at hb
    subst hb
    rcases List.mem_cons.1 ha with rfl | ha
    · exact fun e => h2 e.symm
    · exact fun e => h3 (e ▸ ha)
  · rw [← List.cons_append, List.mem_append, List.mem_singleton] at hz
    rcases hz with hz | rfl
    · exact g2 z hz
    · exact h1
theorem AbSt.end_ {l : List ClA} {n : Int} {m : Nat} (h : AbSt l n m) (h1 : (clB l.length (ovr l (abv l n m).1) && !(decide (ovr l (abv l n m).1 = n) || decide (ovr l (abv l n m).1 ∈ (abv l n m).2))) = false) : aboveC l n = (abv l n m).2 := by
  obtain ⟨_, _, _, g4, g5⟩ := id h
  refine above_left h.lt (abv_end l n m (by omega) ?_)
  unfold clB at h1
  by_cases c1 : ovr l (abv l n m).1 < 0
  · exact .inl c1
  by_cases c2 : (l.length : Nat) ≤ ovr l (abv l n m).1
  · exact .inr (.inl c2)
  rw [decide_eq_true (show 0 ≤ ovr l (abv l n m).1 by omega), decide_eq_true (show ovr l (abv l n m).1 < (l.length : Nat) by omega), Bool.true_and, Bool.true_and, Bool.not_eq_false', Bool.or_eq_true, decide_eq_true_iff, decide_eq_true_iff] at h1
  exact .inr (.inr h1)
theorem above_none {l : List ClA} {n : Int} (h : clB l.length n = false) : aboveC l n = [] := by
  have ho : n < 0 ∨ (l.length : Nat) ≤ n := by
    unfold clB at h
    by_cases c1 : n < 0
    · exact .inl c1
    · rw [decide_eq_true (show 0 ≤ n by omega), Bool.true_and, decide_eq_false_iff_not] at h
      omega
  rcases Nat.eq_zero_or_pos l.length with h0 | h0
  · unfold aboveC
    rw [h0]; rfl
  · exact above_left (k := 0) h0 (abv_out l n 0 ho)
def lenOf : Value → Nat
  | .slice _ n _ => n
  | _ => 0
theorem own_len {w : World} {base : Nat} {e : TypeId} {v : Value} {n : Nat} {xs : List Value} (h : w.ownsRow base e 1 v n xs) : lenOf v = n := by
  rcases h.2 with ⟨rfl, rfl⟩ | ⟨g, cap, cur, rfl, _⟩ <;> rfl
theorem own_base {w : World} {base b2 : Nat} {e : TypeId} {s : Nat} {v : Value} {n : Nat} {xs : List Value} (h : w.ownsRow base e s v n xs) (hb : b2 ≤ base) : w.ownsRow b2 e s v n xs := by
  obtain ⟨h1, h2⟩ := h
  refine ⟨h1, ?_⟩
  rcases h2 with h | ⟨g, cap, cur, hv, hg, r⟩
  · exact .inl h
  · exact .inr ⟨g, cap, cur, hv, by omega, r⟩
theorem ovr_at {l : List ClA} {i : Nat} {y : ClA} (hy : l[i]? = some y) : ovr l (i : Int) = y.x.o := by
  have hil := (List.getElem?_eq_some_iff.1 hy).1
  unfold ovr
  rw [if_pos (by omega), Int.toNat_natCast, List.getD_eq_getElem?_getD, hy]
  rfl
/-- the Over of a class, in memory -/
theorem over_cell {w : World} {B : Nat} {A : Option Addr} {l : List ClA} (h : Es enC w B A l) {z : Int} (h0 : 0 ≤ z) (h1 : z < (l.length : Nat)) : ∃ (a : Nat) (ad : Addr), z = (a : Int) ∧ a < l.length ∧ A = some ad ∧ ad.block < B ∧ w.cell? ⟨(ad.add (a * 7)).block, (ad.add (a * 7)).off + 6, none⟩ = some (.int .i64 (ovr l z)) := by
  obtain ⟨a, rfl⟩ := Int.eq_ofNat_of_zero_le h0
  obtain ⟨ad, y, e, hadb, hy, _, hcell⟩ := Es.get enC_len (by decide) h (show a < l.length by omega)
  refine ⟨a, ad, rfl, by omega, e, hadb, ?_⟩
  have := hcell 6 _ rfl
  rw [add_add _ _ _ (by omega)] at this
  rw [ovr_at hy.out]
  exact this
set_option maxRecDepth 20000 in
set_option maxHeartbeats 4000000 in
theorem p_AboveC (A : Option Addr) (c : Nat) (l : List ClA) (hm : l.length ≤ 1000000) (n : Int) (w : World) (h : Es enC w w.heap.size A l) :
    Calls Try.prog 23 #[.slice A l.length c, .int .i64 n] w (OwI (aboveC l n) w) := by
  have H := hid h
  have HI := hid (fun z X => p_isClass A l.length c z X)
  have hn0 := hid (fun h => above_none (l := l) (n := n) h)
  have Hst := hid (fun h => AbSt.start (l := l) (n := n) h)
  have Hgo := hid (fun m h => AbSt.go (l := l) (n := n) (m := m) h)
  have Hend := hid (fun m h => AbSt.end_ (l := l) (n := n) (m := m) h)
  have Hlt := hid (fun m h => AbSt.lt (l := l) (n := n) (m := m) h)
  have Hrg := hid (fun m (h : AbSt l n m) => h.2.2)
  have Hz := hid (show abv l n 0 = (n, []) from rfl)
  have Hcl := hid (fun z (h : clB l.length z = true) => show 0 ≤ z ∧ z < (l.length : Nat) by
    unfold clB at h
    rw [Bool.and_eq_true, decide_eq_true_iff, decide_eq_true_iff] at h
    exact h)
  have Hcell := hid (fun z h0 h1 => over_cell h (z := z) h0 h1)
  generalize aboveC l n = res at *
  generalize AbSt l n = st at *
  generalize abv l n = ab at *
  generalize ovr l = ov at *
  obtain ⟨i0, hi0, hz0, hz1, hz2⟩ := info_parts Try.info_int14
  clear h
  go_enter Try.func23, Try.ntmps23
  go_wp2_with fail
  refine (HI.out _ _).mono ?_
  rintro e1 w1 ⟨rfl, rfl⟩
  obtain ⟨c1, hc1⟩ : ∃ c1, clB l.length n = c1 := ⟨_, rfl⟩
  rw [hc1]
  have Hc1 := hid hc1
  clear hc1
  cases c1 with
  | false =>
    have hr := hid (hn0.out Hc1.out)
    have own0 := hid (World.ownsRow_nil w w.heap.size 3 1)
    clear Hst Hgo Hend Hlt Hrg Hcl Hcell hn0
    go_wp2_with fail
    go_ret
    exact ⟨_, rfl, by rw [hr.out]; exact own0.out, Below.refl _ _⟩
  | true =>
    have hnr := Hcl.out n Hc1.out
    obtain ⟨a, ad, hza, hal, rfl, hadb, hcell⟩ := Hcell.out n hnr.1 hnr.2
    subst hza
    have Hn64 := hid (show I64 (a : Int) by unfold I64; omega)
    obtain ⟨M, V, hM, hV, HM0, hbV⟩ : ∃ M V, w.heap.size = M ∧ w.alloc (.map #[] 0) = V ∧ Hid (BMp V M 0 (fun _ => false)) ∧ Below w.heap.size w V := ⟨_, _, rfl, rfl, hid (BM.made w), below_alloc w _⟩
    obtain ⟨V2, hrun, HM1, hg⟩ := HM0.out.store Try.MTB (by unfold maxLen; omega) Hn64.out
    have HM1' := hid (show BMp V2 M 1 (add1 (fun _ => false) (a : Int)) from HM1)
    have HB0 := hid (show Below w.heap.size w V2 from hbV.grown hg hbV.size (fun k hk => by injection hk with hk; omega))
    have HB0s := hid (show w.heap.size ≤ M from Nat.le_of_eq hM)
    have HVM := hid (show M + 1 ≤ V2.heap.size from HM1.lt)
    have hmm := @run_makeMap Try.prog
    have hcell1 := (HB0.out.cell (p := ⟨(ad.add (a * 7)).block, (ad.add (a * 7)).off + 6, none⟩) (by show (ad.add (a * 7)).block < _; rw [add_block]; exact hadb)).trans hcell
    have b1 : (0 : Int) ≤ (a : Int) := hnr.1
    have b2 : (a : Int) < (l.length : Int) := hnr.2
    have Hst0 := hid (Hst.out Hc1.out)
    have own0 := hid (World.ownsRow_nil V2 (M + 1) 3 1)
    have Hf0 := hid (show ∀ z, add1 (fun _ => false) (a : Int) z = (decide (z = (a : Int)) || decide (z ∈ (ab 0).2)) from fun z => by
      rw [Hz.out]
      unfold add1
      by_cases hz : z = (a : Int)
      · rw [if_pos hz, decide_eq_true hz]; rfl
      · rw [if_neg hz, decide_eq_false hz]; simp)
    clear hg HM1 hbV hcell
    go_wp2_with fail
    clear hcell1 hM hV hrun hmm
    go_loopw [5, 7] (fun mv ov_ wr => ∃ (m k : Nat) (f : Int → Bool), ov_ = .int .i64 (ov (ab m).1) ∧ k ≤ m + 1 ∧ Hid (st m) ∧ Hid (wr.ownsRow (M + 1) 3 1 mv (ab m).2.length ((ab m).2.map (Value.int .i64))) ∧ Hid (Below w.heap.size w wr) ∧ Hid (BMp wr M k f) ∧ Hid (∀ z, f z = (decide (z = (a : Int)) || decide (z ∈ (ab m).2)))) (fun mv _ _ => l.length - lenOf mv)
    case atStart => exact ⟨0, 1, _, by rw [Hz.out], Nat.le_refl _, Hst0, by rw [Hz.out]; exact own0, HB0, HM1', Hf0⟩
    case round =>
      clear own0 HB0 HM1' Hf0 Hst0
      obtain ⟨m, k, f, rfl, hk, Hstm, HO, HB, HM, HF⟩ := hrel
      have hml := Hlt.out m Hstm.out
      have Hgo1 := hid (Hgo.out m Hstm.out)
      have Hend1 := hid (Hend.out m Hstm.out)
      have Hrg1 := hid (Hrg.out m Hstm.out)
      have Hnx := hid (Hrg.out (m + 1))
      obtain ⟨⟨at_, met⟩, hab⟩ : ∃ s, ab m = s := ⟨_, rfl⟩
      rw [hab] at Hgo1 Hend1 Hrg1 HO HF ⊢
      simp only at Hgo1 Hend1 Hrg1 HO HF ⊢
      obtain ⟨o, ho⟩ : ∃ o, ov at_ = o := ⟨_, rfl⟩
      rw [ho] at Hgo1 Hend1 ⊢
      have HI1 := hid (fun X => HI.out o X)
      have Hclo := hid (Hcl.out o)
      have hlenm := Hrg1.out.1
      have Hlo := hid (own_len HO.out)
      obtain ⟨co, hco⟩ : ∃ co, clB l.length o = co := ⟨_, rfl⟩
      rw [hco] at HI1 Hend1 Hclo
      clear hab ho hco Hst Hgo Hend Hlt Hrg HI hn0 Hz
      have HB1 := HB.out.size
      cases co with
      | false =>
        have hr := hid (Hend1.out rfl)
        clear Hgo1 Hend1 Hclo Hcell Hcl
        go_wp2_with fail
        refine (HI1.out _).mono ?_
        rintro e1 w1 ⟨rfl, rfl⟩
        go_wp2_with fail
        go_ret
        exact ⟨_, rfl, by rw [hr.out]; exact own_base HO.out (by have := HB0s.out; omega), HB.out⟩
      | true =>
        have hor := Hclo.out rfl
        obtain ⟨b, ad2, hob, hbl, had2, hadb2, hcell2⟩ := Hcell.out o hor.1 hor.2
        injection had2 with had2
        subst hob
        subst had2
        have Ho64 := hid (show I64 (b : Int) by unfold I64; omega)
        have hlook := HM.out.look Try.MTB Ho64.out
        have Hfo := hid (HF.out (b : Int))
        obtain ⟨fo, hfo⟩ : ∃ fo, f (b : Int) = fo := ⟨_, rfl⟩
        rw [hfo] at hlook Hfo
        have Hor := hid hor
        clear hfo Hcell Hcl Hclo hor
        cases fo with
        | true =>
          have hr := hid (Hend1.out (by rw [← Hfo.out]; rfl))
          clear Hgo1 Hend1 hcell2
          go_wp2_with fail
          refine (HI1.out _).mono ?_
          rintro e1 w1 ⟨rfl, rfl⟩
          go_wp2_with fail
          go_ret
          exact ⟨_, rfl, by rw [hr.out]; exact own_base HO.out (by have := HB0s.out; omega), HB.out⟩
        | false =>
          have hne : ¬ (b : Int) = (a : Int) ∧ (b : Int) ∉ met := by
            have := Hfo.out
            rw [eq_comm, Bool.or_eq_false_iff, decide_eq_false_iff_not, decide_eq_false_iff_not] at this
            exact this
          obtain ⟨hgo, hst⟩ := Hgo1.out Hor.out hne.1 hne.2
          have Hgo2 := hid hgo
          have Hst2 := hid hst
          have hF2 := hid (show ∀ z, add1 f (b : Int) z = (decide (z = (a : Int)) || decide (z ∈ met ++ [(b : Int)])) from fun z => by
            by_cases hz : z = (b : Int)
            · subst hz
              rw [add1_same]
              simp
            · rw [add1_other _ hz, HF.out z]
              congr 1
              rw [decide_eq_decide]
              simp [hz])
          have hn3 : met.length + 1 ≤ maxLen := by unfold maxLen; omega
          have hn4 : (met.length + 1) * 8 ≤ 140737488355328 := by omega
          have Hc2 := hid hcell2
          have hadb3 := hid (show (ad.add (b * 7)).block < w.heap.size by rw [add_block]; exact hadb2)
          have i1 : (0 : Int) ≤ (b : Int) := by omega
          have i2 : (b : Int) < (l.length : Int) := by omega
          clear Hgo1 Hend1 hgo hst hne Hfo hcell2
          go_wp2_with fail
          refine (HI1.out _).mono ?_
          rintro e1 w1 ⟨rfl, rfl⟩
          go_wp2_with (first
            | (at_mapUpdate; refine wpList_bm_store rfl _ _ _ rfl Try.MTB HM.out (by unfold maxLen; omega) rfl rfl rfl Ho64.out ?_; intro w5 hm5 hgrow5; have HO5 := hid (HO.out.kept hgrow5 (.inr (fun e => by have := (HO.out.lt M e).1; omega))); have HMz5 := hid hm5; have hM5 := hm5.lt; have Hg5 := hid hgrow5; clear hgrow5 hm5)
            | (at_builtin; refine wpList_append_own _ rfl _ _ 29 rfl (M + 1) 3 i0 (.int .i64 0) 1 8 Try.underlying29 hi0 hz0 hz1 hz2 rfl (by decide) _ _ _ rfl (HO5.out.alloc _) ⟨_, 0, none⟩ 1 1 [.int .i64 (b : Int)] rfl rfl (lit_one _ _ _) (int_one _ _) hn3 hn4 (le_alloc hM5 _) ?_; intro v1 w6 hown2 hgrow _; have HB6 := hid (((HB.out.grown Hg5.out HB.out.size (fun k hk => by injection hk with hk; rw [← hk]; exact HB0s.out)).alloc (Nat.le_trans HB.out.size Hg5.out.size) _).grown hgrow (le_alloc (Nat.le_trans HB.out.size Hg5.out.size) _) (fun k hk => Nat.le_trans HB0s.out (Nat.le_trans (Nat.le_succ M) (HO5.out.lt k hk).1))); have HM6 := hid ((HMz5.out.next (below_alloc _ _)).grown hgrow (fun e => by have := (HO5.out.lt M e.symm).1; omega)); have hc6 := (HB6.out.cell (p := ⟨(ad.add (b * 7)).block, (ad.add (b * 7)).off + 6, none⟩) hadb3.out).trans Hc2.out; have Ho6 := hid hown2; clear hgrow hown2))
          refine ⟨⟨m + 1, _, _, by rw [Hgo2.out], ?_, Hst2, ?_, HB6, HM6, ?_⟩, ?_⟩
          · split <;> omega
          · rw [Hgo2.out]
            simp only [List.length_append, List.map_append]
            exact Ho6
          · rw [Hgo2.out]; exact hF2
          · rw [own_len Ho6.out, Hlo.out]
            omega
end Go.Proofs.Ytgkplcipplpobaa

/- Rows of texts: what it is that a slice of strings reads as a list of texts, however it was made; few and Same of layer 2. -/
import Derived.Test.YtikgaknmmbmnoaaDoorWrdC
namespace Go.Proofs.YtikgaknmmbmnoaaDoor
open Go.RowKit

theorem add_block (a : Addr) (k : Nat) : (a.add k).block = a.block := by unfold Addr.add; split <;> rfl

/-- the slice value with this address reads as these texts, and lies below block B -/
def Strs (w : World) (B : Nat) (A : Option Addr) (ls : List (List UInt8)) : Prop :=
  ls ≠ [] → ∃ ad, A = some ad ∧ ad.block < B ∧ ∀ k l, ls[k]? = some l → w.cell? (ad.add k) = some (txt l)

theorem Strs.none_ (w : World) (B : Nat) (A : Option Addr) : Strs w B A [] := fun h => absurd rfl h
theorem Strs.at_ {w : World} {B : Nat} {A : Option Addr} {ls : List (List UInt8)} (h : Strs w B A ls) {k : Nat} (hk : k < ls.length) : ∃ ad, A = some ad ∧ ad.block < B ∧ w.cell? (ad.add k) = some (txt ls[k]) := by
  obtain ⟨ad, e, hb, hc⟩ := h (by intro e; subst e; simp at hk)
  exact ⟨ad, e, hb, hc k _ (List.getElem?_eq_getElem hk)⟩
theorem Strs.keep {w w' : World} {B : Nat} {A : Option Addr} {ls : List (List UInt8)} (h : Strs w B A ls) (hk : ∀ p : Addr, p.block < B → w'.cell? p = w.cell? p) : Strs w' B A ls := fun hn => by
  obtain ⟨ad, e, hb, hc⟩ := h hn
  exact ⟨ad, e, hb, fun k l hl => (hk _ (by rw [add_block]; exact hb)).trans (hc k l hl)⟩
theorem Strs.more {w : World} {B B' : Nat} {A : Option Addr} {ls : List (List UInt8)} (h : Strs w B A ls) (hB : B ≤ B') : Strs w B' A ls := fun hn => by
  obtain ⟨ad, e, hb, hc⟩ := h hn
  exact ⟨ad, e, by omega, hc⟩
theorem Strs.below {w w' : World} {B C : Nat} {A : Option Addr} {ls : List (List UInt8)} (h : Strs w B A ls) (hb : Below C w w') (hC : B ≤ C) : Strs w' B A ls := h.keep fun _ hp => hb.cell (Nat.lt_of_lt_of_le hp hC)
theorem Strs.of_own {w : World} {base : Nat} {e : TypeId} {A : Option Addr} {n c : Nat} {ls : List (List UInt8)} (h : w.ownsRow base e 1 (.slice A n c) n (ls.map txt)) : Strs w w.heap.size A ls := fun hn => by
  have hl : ls.length = n := by have := h.1; simpa using this
  have hp : 0 < n := by rw [← hl]; exact List.length_pos_iff.2 hn
  rcases h.2 with ⟨_, h0⟩ | ⟨g, cap, cur, hv, _, hg, _⟩
  · omega
  have hA : A = some ⟨g, 0, none⟩ := by injection hv
  subst hA
  refine ⟨_, rfl, (h.lt g rfl).2, fun k l hk => h.cells (g := g) rfl k _ ?_⟩
  rw [List.getElem?_map, hk]; rfl

/-- what a walk is told of a slice of texts that came in -/
def IsRowS (w : World) (a : Option Addr) (len cap : Nat) (zs : List ByteArray) : Prop :=
  (a = none ∧ len = 0 ∧ cap = 0 ∧ zs = []) ∨
  ∃ x, a = some x ∧ len ≤ cap ∧ cap ≤ maxLen ∧ zs.length = cap ∧ (∀ i, i < zs.length → w.cell? (x.add i) = some (.string (zs.getD i ByteArray.empty))) ∧ ∀ s ∈ zs, s.size ≤ maxLen
theorem IsRowS.open_ {w : World} {a : Option Addr} {len cap : Nat} {zs : List ByteArray} (h : IsRowS w a len cap zs) : ∃ ls : List (List UInt8), ls.length = len ∧ Strs w w.heap.size a ls ∧ len ≤ maxLen ∧ ∀ t ∈ ls, t.length ≤ maxLen := by
  rcases h with ⟨rfl, rfl, rfl, rfl⟩ | ⟨x, rfl, h1, h2, h3, h4, h5⟩
  · exact ⟨[], rfl, Strs.none_ _ _ _, Nat.zero_le _, fun t ht => by cases ht⟩
  · have hl : ((zs.take len).map (·.data.toList)).length = len := by rw [List.length_map, List.length_take]; omega
    refine ⟨(zs.take len).map (·.data.toList), hl, fun hne => ?_, by omega, fun t ht => ?_⟩
    · have hp : 0 < len := by rw [← hl]; exact List.length_pos_iff.2 hne
      refine ⟨x, rfl, ?_, fun k l hk => ?_⟩
      · have := World.block_lt_of_cell? _ _ (h4 0 (by omega))
        rwa [add_block] at this
      · rw [List.getElem?_map] at hk
        cases hz : (zs.take len)[k]? with
        | none => rw [hz] at hk; cases hk
        | some s =>
          rw [hz] at hk
          injection hk with hk
          subst hk
          rw [List.getElem?_take] at hz
          split at hz
          · have hlt : k < zs.length := by
              rcases Nat.lt_or_ge k zs.length with h | h
              · exact h
              · rw [List.getElem?_eq_none h] at hz; cases hz
            rw [h4 k hlt, List.getD_eq_getElem?_getD, hz]
            show some (Value.string s) = some (Value.string (bs s.data.toList))
            rw [of_bs]
          · cases hz
    · obtain ⟨s, hs, rfl⟩ := List.mem_map.1 ht
      rw [data_len]
      exact h5 s (List.mem_of_mem_take hs)

def fewB (ls : List (List UInt8)) : Bool := (ls.take 40).all (fun t => decide (t.length ≤ 300)) && decide (ls.length ≤ 30)
theorem fewB_yes {ls : List (List UInt8)} (h : fewB ls = true) : ls.length ≤ 30 ∧ ∀ t ∈ ls, t.length ≤ 300 := by
  unfold fewB at h
  rw [Bool.and_eq_true, List.all_eq_true, decide_eq_true_iff] at h
  refine ⟨h.2, fun t ht => ?_⟩
  have := h.1 t (by rw [List.take_of_length_le (by omega)]; exact ht)
  simpa using this
theorem fewB_no {ls : List (List UInt8)} (k : Nat) (hk : k < ls.length) (h4 : k < 40) (h : 300 < ls[k].length) : fewB ls = false := by
  unfold fewB
  rw [Bool.and_eq_false_iff]
  left
  rw [← Bool.not_eq_true, List.all_eq_true]
  intro h2
  have h3 : ls[k] ∈ ls.take 40 := by
    refine List.mem_iff_getElem?.2 ⟨k, ?_⟩
    rw [List.getElem?_take, if_pos h4, List.getElem?_eq_getElem hk]
  have := h2 _ h3
  simp at this
  omega
theorem fewB_end {ls : List (List UInt8)} (h : (ls.take 40).all (fun t => decide (t.length ≤ 300)) = true) : fewB ls = decide (ls.length ≤ 30) := by
  unfold fewB; rw [h]; rfl

def BoolRet (b : Bool) (w : World) (e : Ending) (w' : World) : Prop := e = .returned (.bool b) ∧ w = w'
theorem BoolRet.mk {b c : Bool} (h : c = b) (w : World) : BoolRet b w (.returned (.bool c)) w := by unfold BoolRet; rw [h]; exact ⟨rfl, rfl⟩

theorem p_few (A : Option Addr) (c : Nat) (ls : List (List UInt8)) (w : World) (B : Nat) (h : Strs w B A ls) (hm : ls.length ≤ maxLen) (hz : ∀ t ∈ ls, t.length ≤ maxLen) :
    Calls Tryd.prog 4 #[.slice A ls.length c] w (BoolRet (fewB ls) w) := by
  unfold maxLen at hm
  have Hz := hid hz
  have H := hid h
  clear hz h
  go_enter Tryd.func4, Tryd.ntmps4
  go_wp2
  go_loop [3] (fun i => ∃ k : Nat, i = .int .i64 k ∧ k ≤ ls.length ∧ k ≤ 40 ∧ Hid ((ls.take k).all (fun t => decide (t.length ≤ 300)) = true)) (fun i => 40 - (intOf i).toNat)
  case atStart => exact ⟨0, rfl, Nat.zero_le _, by omega, by show List.all _ _ = _; simp⟩
  case round =>
    obtain ⟨k, rfl, hk, hk4, hall⟩ := hrel
    by_cases hlt : k < ls.length
    · by_cases h40 : k < 40
      · obtain ⟨ad, rfl, _, hc⟩ := H.out.at_ hlt
        have hbz : (bs ls[k]).size = ls[k].length := bs_size _
        have hzk := Hz.out ls[k] (List.getElem_mem _)
        unfold maxLen at hzk
        by_cases hbig : 300 < ls[k].length
        · have hfew := hid (fewB_no k hlt h40 hbig)
          have hb2 : 300 < (bs ls[k]).size := by omega
          have Hbz := hid hbz
          clear hbz
          go_wp2_with fail
          go_ret
          exact BoolRet.mk hfew.out.symm _
        · have hall2 := hid (show (ls.take (k + 1)).all (fun t => decide (t.length ≤ 300)) = true by
            rw [Wrd.take_snoc _ _ hlt, List.all_append, hall.out]
            simp; omega)
          have hb2 : ¬ 300 < (bs ls[k]).size := by omega
          have hb3 : (bs ls[k]).size ≤ 300 := by omega
          have Hbz := hid hbz
          clear hbz hbig
          go_wp2_with fail
          go_round
          case rel => exact ⟨k + 1, by go_num, by omega, by omega, hall2.out⟩
          case measure => simp [intOf]; omega
      · have hk40 : k = 40 := by omega
        have hfew := hid (fewB_end (ls := ls) (by rw [← hk40]; exact hall.out))
        go_wp2_with fail
        go_ret
        exact BoolRet.mk (by rw [hfew.out, Bool.eq_iff_iff]; simp; try omega) _
    · have hfew := hid (fewB_end (ls := ls) (by
        have e1 : ls.take k = ls := List.take_of_length_le (by omega)
        have e2 : ls.take 40 = ls := List.take_of_length_le (by omega)
        rw [e2]
        have := hall.out
        rwa [e1] at this))
      go_wp2_with fail
      go_ret
      exact BoolRet.mk (by rw [hfew.out, Bool.eq_iff_iff]; simp; try omega) _

def BoolDraw (b : Bool) (w : World) (e : Ending) (w' : World) : Prop := e = .returned (.bool b) ∧ ∃ n, w' = w.drewN n
theorem BoolDraw.mk {b c : Bool} {w w' : World} (h : c = b) (hw : ∃ n, w' = w.drewN n) : BoolDraw b w (.returned (.bool c)) w' := by unfold BoolDraw; rw [h]; exact ⟨rfl, hw⟩

theorem bs_inj {a b : List UInt8} (h : bs a = bs b) : a = b := by
  have := congrArg (fun s => s.data.toList) h
  exact this

theorem ne_of_walk {a b : List UInt8} (h : (!(bs a).toList == (bs b).toList) = true) : a ≠ b := by
  rw [list_of, list_of, bs_data, bs_data, Bool.not_eq_true', beq_eq_false_iff_ne] at h
  exact h
theorem eq_of_walk {a b : List UInt8} (h : (!(bs a).toList == (bs b).toList) = false) : a = b := by
  rw [list_of, list_of, bs_data, bs_data, Bool.not_eq_false', beq_iff_eq] at h
  exact h

theorem p_Same (A A' : Option Addr) (c c' : Nat) (ls ms : List (List UInt8)) (w : World) (B B' : Nat) (h : Strs w B A ls) (h' : Strs w B' A' ms) (hm : ls.length ≤ maxLen) (hm' : ms.length ≤ maxLen) :
    Calls Tryd.prog 8 #[.slice A ls.length c, .slice A' ms.length c'] w (BoolDraw (decide (ls = ms)) w) := by
  unfold maxLen at hm hm'
  by_cases hlen : ls.length = ms.length
  · have H := hid h
    have H' := hid h'
    clear h h'
    generalize hn : ms.length = n at *
    subst hlen
    have Hn := hid hn
    clear hn
    go_enter Tryd.func8, Tryd.ntmps8
    go_wp2
    go_loopw [5] (fun i wr => ∃ (k m : Nat), i = .int .i64 k ∧ k ≤ ls.length ∧ wr = w.drewN m ∧ Hid (ls.take k = ms.take k)) (fun i _ => ls.length - (intOf i).toNat)
    case atStart => exact ⟨0, 0, rfl, Nat.zero_le _, rfl, rfl⟩
    case round =>
      obtain ⟨k, m, rfl, hk, rfl, hsame⟩ := hrel
      by_cases hlt : k < ls.length
      · have hlt' : k < ms.length := by rw [Hn.out]; exact hlt
        obtain ⟨ad, rfl, _, hc⟩ := H.out.at_ hlt
        obtain ⟨ad', rfl, _, hc'⟩ := H'.out.at_ hlt'
        have b1 : (0 : Int) ≤ (k : Int) := by omega
        have b2 : (k : Int) < ls.length := by omega
        go_wp2_with fail
        go_quiet (fail)
        go_wp2_with fail
        · have hne := ne_of_walk (a := ls[k]) (b := ms[k]) (by assumption)
          go_ret
          refine BoolDraw.mk ?_ ⟨_, World.drewN_drewN _ _ _⟩
          symm
          rw [decide_eq_false_iff_not]
          intro e
          apply hne
          have e1 : ls[k]? = ms[k]? := by rw [e]
          rw [List.getElem?_eq_getElem hlt, List.getElem?_eq_getElem hlt'] at e1
          injection e1
        · have he := eq_of_walk (a := ls[k]) (b := ms[k]) (by assumption)
          refine ⟨⟨k + 1, _, by go_num, by omega, rfl, ?_⟩, by simp [intOf]; omega⟩
          show ls.take (k + 1) = ms.take (k + 1)
          rw [Wrd.take_snoc _ _ hlt, Wrd.take_snoc _ _ hlt', hsame.out, he]
      · go_wp2_with fail
        go_ret
        refine BoolDraw.mk ?_ ⟨_, rfl⟩
        symm
        rw [decide_eq_true_iff]
        have e := hsame.out
        rwa [List.take_of_length_le (by omega), List.take_of_length_le (by rw [Hn.out]; omega)] at e
  · have hne : ((ls.length : Int) != (ms.length : Int)) = true := by rw [bne_iff_ne]; omega
    have hres := hid (show decide (ls = ms) = false by rw [decide_eq_false_iff_not]; intro e; exact hlen (by rw [e]))
    go_enter Tryd.func8, Tryd.ntmps8
    go_wp2
    go_ret
    exact BoolDraw.mk hres.out.symm ⟨0, rfl⟩
end Go.Proofs.YtikgaknmmbmnoaaDoor

/- A table, a function's own blocks and a row beside it (layer 6). -/
import Derived.Test.YtbkabjnklipmjaaTabK
import Derived.Test.YtbkabjnklipmjaaTabQ
namespace Go.Proofs.Ytbkabjnklipmjaa
open Go.RowKit Go.Shelf
open Tbm (Kv)

/-- a table; blocks S that stay as they lay in wf; a row that is read: none in another -/
def Snp (n₀ : Nat) (w : World) (p : Nat) (m : List Kv) (S : Nat → Prop) (wf : World) (A : Option Addr) (l : List Kv) : Prop :=
  ∃ F, Tb w F p m ∧ (∀ k, F k → n₀ ≤ k) ∧ ¬ S p ∧ (∀ k, S k → k < w.heap.size ∧ w.heap[k]? = wf.heap[k]?) ∧
    Prs w w.heap.size A l ∧ (∀ ad, A = some ad → ad.block < w.heap.size ∧ ¬ F ad.block)
theorem Snp.below {n₀ : Nat} {w w' wf : World} {p : Nat} {m l : List Kv} {S : Nat → Prop} {A : Option Addr} (h : Snp n₀ w p m S wf A l) (hb : Below w.heap.size w w') : Snp n₀ w' p m S wf A l := by
  obtain ⟨F, t1, f1, hd, hs, r1, a1⟩ := h
  exact ⟨F, t1.below hb, f1, hd, fun k hk => ⟨Nat.lt_of_lt_of_le (hs k hk).1 hb.size, (hb.block k (hs k hk).1).trans (hs k hk).2⟩, (r1.below hb (Nat.le_refl _)).more hb.size, fun ad e => ⟨Nat.lt_of_lt_of_le (a1 ad e).1 hb.size, (a1 ad e).2⟩⟩
theorem Snp.tb {n₀ : Nat} {w wf : World} {p : Nat} {m l : List Kv} {S : Nat → Prop} {A : Option Addr} (h : Snp n₀ w p m S wf A l) : TbO n₀ w p m := by
  obtain ⟨F, t1, f1, _⟩ := h
  exact ⟨F, t1, f1⟩
theorem Snp.row {n₀ : Nat} {w wf : World} {p : Nat} {m l : List Kv} {S : Nat → Prop} {A : Option Addr} (h : Snp n₀ w p m S wf A l) : Prs w w.heap.size A l := by
  obtain ⟨F, _, _, _, _, r1, _⟩ := h
  exact r1
theorem Snp.s {n₀ : Nat} {w wf : World} {p : Nat} {m l : List Kv} {S : Nat → Prop} {A : Option Addr} (h : Snp n₀ w p m S wf A l) : ∀ k, S k → w.heap[k]? = wf.heap[k]? := by
  obtain ⟨F, _, _, _, hs, _⟩ := h
  exact fun k hk => (hs k hk).2
/-- told anew: what is told lies in blocks of its own, and in the tree's -/
def TfRet (n₀ p : Nat) (A : Option Addr) (m fm : List Kv) (w : World) (e : Ending) (w' : World) : Prop := ∃ gf lb, e = .returned (.func (.func gf) #[] lb) ∧ (∀ args w, (callFunc gf args).run Try.prog w = .ok (.enter gf args) w) ∧ Below w.heap.size w w' ∧
  ∃ S : Nat → Prop, Snp n₀ w' p m S w' A m ∧ (∀ b, S b → True ∧ b < w'.heap.size) ∧ ∀ (n : Nat) (_ : 3 ≤ n) (n₀ : Nat) (W : World), (∀ b, S b → W.heap[b]? = w'.heap[b]?) → w'.heap.size ≤ W.heap.size →
    SeqStopsK Fence.wide n Try.prog gf lb kvEnc (KpS n₀ S) (fun ys => ys = fm) (fun pre => pre <+: fm) fm.length W
theorem two_from {n₀ : Nat} {w : World} {p : Nat} {A : Option Addr} {m : List Kv} (h : Two n₀ w p A m) (hm : m.length ≤ 10000) (key : List UInt8) :
    Calls Try.prog 23 #[ptr p, txt key] w (TfRet n₀ p A m (Tbm.from_ m key) w) := by
  obtain ⟨F, t1, f1, r1, a1⟩ := h
  refine (p_From t1 hm key).mono ?_
  rintro e w' ⟨gf, lb, he, hen, hb, S, hS, hseq⟩
  exact ⟨gf, lb, he, hen, hb, S, ⟨F, t1.below hb, f1, fun a => by have := t1.lt p t1.self; rcases (hS p a).1 with h | h; exact h.2 rfl; omega, fun k hk => ⟨(hS k hk).2, rfl⟩, (r1.below hb (Nat.le_refl _)).more hb.size, fun ad e => ⟨Nat.lt_of_lt_of_le (a1 ad e).1 hb.size, (a1 ad e).2⟩⟩, fun b hb => ⟨trivial, (hS b hb).2⟩, hseq⟩
theorem Snp.to {n₀ : Nat} {w w' wf : World} {p : Nat} {m' l : List Kv} {S F : Nat → Prop} {A : Option Addr} (hn : n₀ ≤ w.heap.size) (f1 : ∀ k, F k → n₀ ≤ k) (hd : ¬ S p) (hs : ∀ k, S k → k < w.heap.size ∧ w.heap[k]? = wf.heap[k]?)
    (r1 : Prs w w.heap.size A l) (a1 : ∀ ad, A = some ad → ad.block < w.heap.size ∧ ¬ F ad.block) (ht : TbTo F p m' w w') : Snp n₀ w' p m' S wf A l := by
  have hb1 := fun ad e => ht.block (a1 ad e).1 (a1 ad e).2
  obtain ⟨⟨F', t1', g⟩, hk⟩ := ht
  refine ⟨F', t1', fun k h => by rcases g k h with h | h; exact f1 k h; omega, hd, fun k hS => ⟨Nat.lt_of_lt_of_le (hs k hS).1 hk.size, (hk.block k (hs k hS).1 (fun e => hd (e ▸ hS))).trans (hs k hS).2⟩, ?_, ?_⟩
  · exact (Rd.kept r1 hb1).more hk.size
  · exact fun ad e => ⟨Nat.lt_of_lt_of_le (a1 ad e).1 hk.size, fun h => by rcases g _ h with h | h; exact (a1 ad e).2 h; have := (a1 ad e).1; omega⟩
theorem snp_put {n₀ : Nat} {w wf : World} {p : Nat} {m l : List Kv} {S : Nat → Prop} {A : Option Addr} (h : Snp n₀ w p m S wf A l) (hn : n₀ ≤ w.heap.size) (hm : m.length ≤ 10000) (key v : List UInt8) :
    Calls Try.prog 13 #[ptr p, txt key, txt v] w fun e w' => e = .returned (.tuple #[]) ∧ Snp n₀ w' p (Tbm.put m key v) S wf A l ∧ Below n₀ w w' := by
  obtain ⟨F, t1, f1, hd, hs, r1, a1⟩ := h
  refine (p_Put t1 hm key v).mono ?_
  rintro e w' ⟨he, ht⟩
  exact ⟨he, Snp.to hn f1 hd hs r1 a1 ht, (ht.below f1 hn).1⟩
theorem snp_del {n₀ : Nat} {w wf : World} {p : Nat} {m l : List Kv} {S : Nat → Prop} {A : Option Addr} (h : Snp n₀ w p m S wf A l) (hn : n₀ ≤ w.heap.size) (hm : m.length ≤ 10000) (key : List UInt8) :
    Calls Try.prog 15 #[ptr p, txt key] w fun e w' => e = .returned (.bool (Tbm.get m key).isSome) ∧ Snp n₀ w' p (Tbm.del m key) S wf A l ∧ Below n₀ w w' := by
  obtain ⟨F, t1, f1, hd, hs, r1, a1⟩ := h
  refine (p_Delete t1 hm key).mono ?_
  rintro e w' ⟨he, ht⟩
  exact ⟨he, Snp.to hn f1 hd hs r1 a1 ht, (ht.below f1 hn).1⟩

theorem take_min (m : List Kv) (k : Nat) : m.take k = m.take (min m.length k) := by
  by_cases h : k ≤ m.length
  · rw [Nat.min_eq_right h]
  · rw [List.take_of_length_le (by omega), Nat.min_eq_left (by omega), List.take_length]
/-! ### what is done behind -/
def moreM (m : List Kv) (o : Opv) : List Kv := if o.1 = 2 then Tbm.del m o.2.1 else Tbm.put m o.2.1 o.2.2
theorem moreM_srt {m : List Kv} (h : Tbm.Srt m) (o : Opv) : Tbm.Srt (moreM m o) := by
  unfold moreM
  split
  · exact h.del _
  · exact h.put _ _
theorem moreM_len {m : List Kv} (h : Tbm.Srt m) (o : Opv) : (moreM m o).length ≤ m.length + 1 := by
  unfold moreM
  split
  · exact Nat.le_trans (List.length_filter_le _ _) (Nat.le_succ _)
  · rw [Tbm.len_put h]; split <;> omega
end Go.Proofs.Ytbkabjnklipmjaa

/- The document's answers for layer 6: Delete, Put. -/
import Derived.Test.YtbkabjnklipmjaaTabA
namespace Go.Proofs.Ytbkabjnklipmjaa
open Go.RowKit
open Tbm (Kv)

theorem Try.info_pair : (Try.prog.info? 47).map (fun i => (i.zero, i.size, i.bytes)) = some (some (.agg #[.string ⟨#[]⟩, .string ⟨#[]⟩]), 2, 32) := by kernel_rfl
theorem own_rdN {w : World} {base size : Nat} {e : TypeId} {v : Value} {n : Nat} {vs : List Value} (h : w.ownsRow base e size v n vs) : ∃ A c, v = .slice A n c ∧ Rd w w.heap.size A vs ∧ n ≤ c ∧ ∀ ad, A = some ad → base ≤ ad.block ∧ ad.block < w.heap.size := by
  rcases h.2 with ⟨rfl, rfl⟩ | ⟨g, cap, cur, rfl, hb, hg, hn, _⟩
  · exact ⟨none, 0, rfl, by have := h.1; rw [List.eq_nil_of_length_eq_zero (l := vs) (by simpa using this)]; exact Rd.none_ _ _ _, Nat.le_refl _, fun _ h => by cases h⟩
  · exact ⟨some ⟨g, 0, none⟩, cap, rfl, fun _ => ⟨_, rfl, (Array.getElem?_eq_some_iff.1 hg).1, fun k l hk => h.cells rfl k _ hk⟩, hn, fun _ h => by cases h; exact ⟨hb, (Array.getElem?_eq_some_iff.1 hg).1⟩⟩
/-- hands out a new row of pairs -/
def PrRet (m : List Kv) (w : World) (e : Ending) (w' : World) : Prop := ∃ A c, e = .returned (.slice A m.length c) ∧ Prs w' w'.heap.size A m ∧ m.length ≤ c ∧ (∀ ad, A = some ad → w.heap.size ≤ ad.block ∧ ad.block < w'.heap.size) ∧ Below w.heap.size w w'
theorem PrRet.mk {m : List Kv} {w w' : World} {n : Nat} {e : TypeId} {v : Value} {xs : List Value} (h : w'.ownsRow w.heap.size e 2 v n xs) (hn : n = m.length) (hx : xs = pcells m) (hb : Below w.heap.size w w') : PrRet m w (.returned v) w' := by
  subst hn; subst hx
  obtain ⟨A, c, rfl, hr, hc, hA⟩ := own_rdN h
  exact ⟨A, c, rfl, hr, hc, hA, hb⟩
theorem del_next (m : List Kv) (key : List UInt8) (k : Nat) (p : Kv) (h : m[k]? = some p) : Tbm.del (m.take (k + 1)) key = Tbm.del (m.take k) key ++ if p.1 = key then [] else [p] := by
  unfold Tbm.del
  rw [List.take_add_one, h, List.filter_append]
  congr 1
  by_cases hk : p.1 = key
  · rw [if_pos hk]; simp [hk]
  · rw [if_neg hk]; simp [hk]

set_option maxRecDepth 20000 in
set_option maxHeartbeats 2000000 in
theorem r_Delete (A : Option Addr) (n c : Nat) (m : List Kv) (hn : m.length = n) (hm : n ≤ 1000000) (key : List UInt8) (B : Nat) (w : World) (hB : B ≤ w.heap.size) (h : Prs w B A m) :
    Calls Try.prog 16 #[.slice A n c, txt key] w (PrRet (Tbm.del m key) w) := by
  subst hn
  have H := hid h
  have hown0 : w.ownsRow w.heap.size 47 2 (.slice none 0 0) 0 [] := World.ownsRow_nil _ _ _ _
  obtain ⟨i0, hi, hz0, hz1, hz2⟩ := info_parts Try.info_pair
  clear h
  go_enter Try.func16, Try.ntmps16
  go_wp2_with fail
  go_loopw [5, 6] (fun sv iv wr => ∃ (k : Nat) (o : List Kv) (A1 : Option Addr) (c1 : Nat), iv = .int .i64 k ∧ k ≤ m.length ∧ sv = .slice A1 o.length c1 ∧ wr.ownsRow w.heap.size 47 2 (.slice A1 o.length c1) o.length (pcells o) ∧ Hid (o = Tbm.del (m.take k) key) ∧ o.length ≤ k ∧ Below w.heap.size w wr) (fun _ iv _ => m.length - (intOf iv).toNat)
  case atStart => exact ⟨0, [], none, 0, rfl, Nat.zero_le _, rfl, hown0, hid rfl, Nat.le_refl _, Below.refl _ _⟩
  case round =>
    clear hown0
    obtain ⟨k, o, A1, c1, rfl, hk, rfl, hown, ho, hol, hb⟩ := hrel
    by_cases hlt : k < m.length
    · obtain ⟨b0, o0, ky, vl, rfl, hbB, Hx, hc1, hc2⟩ := Prs.get (H.out.below hb hB) hlt
      have Hd := hid (del_next m key k _ Hx.out)
      rw [← ho.out] at Hd
      have i1 : (0 : Int) ≤ (k : Int) := by omega
      have i2 : (k : Int) < (m.length : Int) := by omega
      have hbs := hb.size
      by_cases hkey : ky = key
      · have hne : ((bs ky).toList == (bs key).toList) = true := by rw [beq_txt, beq_iff_eq]; exact hkey
        rw [if_pos hkey, List.append_nil] at Hd
        clear hkey
        go_wp2_with fail
        refine ⟨⟨k + 1, o, A1, c1, by go_num, by omega, rfl, hown, hid Hd.out.symm, by omega, hb⟩, by simp [intOf]; omega⟩
      · have hne : ((bs ky).toList == (bs key).toList) = false := by rw [beq_txt, beq_eq_false_iff_ne]; exact hkey
        rw [if_neg hkey] at Hd
        clear hkey
        have hn3 : o.length + 1 ≤ maxLen := by unfold maxLen; omega
        have hn4 : (o.length + 1) * 32 ≤ 140737488355328 := by omega
        have hlit := fun (w : World) (t : TypeId) => lit_cells w [txt ky, txt vl] t (show 2 ≤ maxLen by unfold maxLen; omega)
        have hone : ∀ u ∈ [txt ky, txt vl], u.oneCell' = true := pcells_one [(ky, vl)]
        go_wp2_with (at_builtin; refine wpList_append_own _ rfl _ _ 29 rfl w.heap.size 47 i0 (.agg #[.string ⟨#[]⟩, .string ⟨#[]⟩]) 2 32 Try.underlying29 hi hz0 hz1 hz2 rfl (by decide) _ _ _ rfl (hown.alloc _) ⟨_, 0, none⟩ 1 1 [txt ky, txt vl] rfl rfl (hlit _ _) hone hn3 hn4 (le_alloc hbs _) ?_; intro v1 w2 hown2 hgrow _)
        have hb2 : Below w.heap.size w w2 := (hb.alloc hbs _).grown hgrow (le_alloc hbs _) (fun k hk => (hown.lt k hk).1)
        obtain ⟨A2, c2, rfl, _, _, _⟩ := own_rdN hown2
        refine ⟨⟨k + 1, o ++ [(ky, vl)], A2, c2, by go_num, by omega, by rw [List.length_append]; rfl, ?_, hid Hd.out.symm, by rw [List.length_append]; show o.length + 1 ≤ k + 1; omega, hb2⟩, by simp [intOf]; omega⟩
        rw [List.length_append, pcells_append]
        exact hown2
    · obtain rfl : k = m.length := by omega
      have ho' := hid (ho.out.trans (by rw [List.take_length]))
      go_wp2_with fail
      go_ret
      rw [← ho'.out]
      exact PrRet.mk hown rfl rfl hb
end Go.Proofs.Ytbkabjnklipmjaa

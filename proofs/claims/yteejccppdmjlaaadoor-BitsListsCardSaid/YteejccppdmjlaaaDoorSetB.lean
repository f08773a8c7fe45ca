/- The document's own answer for layer 5: Made. -/
import Derived.Test.YteejccppdmjlaaaDoorSetA
import Derived.Laws.Bits64
namespace Go.Proofs.YteejccppdmjlaaaDoor
open Go.RowKit

def slen : Value → Nat
  | .slice _ n _ => n
  | _ => 0

theorem wrap_put (x j : Nat) (h : x + 2 ^ j < 18446744073709551616) : IntKind.u64.wrap ((x : Int) + IntKind.u64.wrap (2 ^ j)) = ((x + 2 ^ j : Nat) : Int) := by
  have e : (2 : Int) ^ j = ((2 ^ j : Nat) : Int) := by rw [Int.natCast_pow]; rfl
  rw [e, IntKind.wrap_u64, IntKind.wrap_u64]
  generalize 2 ^ j = y at *
  omega
set_option maxHeartbeats 2000000 in
theorem r_Made (A : Option Addr) (n c : Nat) (L : List Bool) (hn : L.length = n) (hm : n ≤ 1000000) (B : Nat) (w : World) (hB : B ≤ w.heap.size) (h : Tf w B A L) :
    Calls Tryd.prog 26 #[.slice A n c] w (SetRet (fun i => L.getD i false) w) := by
  subst hn
  obtain ⟨i0, hi, hz0, hz1, hz2⟩ := info_parts Tryd.info_u64
  have H := hid h
  clear h
  have hown0 : w.ownsRow w.heap.size 35 1 (.slice none 0 0) 0 [] := ⟨rfl, .inl ⟨rfl, rfl⟩⟩
  go_enter Tryd.func26, Tryd.ntmps26
  go_wp2_with fail
  go_loopw [3, 4] (fun sv iv wr => ∃ (k : Nat) (l : List Nat) (A1 : Option Addr) (c1 : Nat), iv = .int .i64 k ∧ k ≤ L.length ∧ 64 * l.length < k + 64 ∧ sv = .slice A1 l.length c1 ∧ wr.ownsRow w.heap.size 35 1 (.slice A1 l.length c1) l.length (l.map ucell) ∧ Bst.Ok l ∧ Bst.Short l ∧ (∀ j, Bst.mem l j = (decide (j < k) && L.getD j false)) ∧ Below w.heap.size w wr) (fun _ iv _ => L.length - (intOf iv).toNat)
  case atStart => exact ⟨0, [], none, 0, rfl, Nat.zero_le _, by simp, rfl, hown0, Bst.ok_nil, Bst.short_nil, fun j => by rw [Bst.mem_nil]; rfl, Below.refl _ _⟩
  case round =>
    clear hown0
    obtain ⟨k, l, A1, c1, rfl, hk, hlen, rfl, hown, hok, hsh, hmem, hb⟩ := hrel
    by_cases hlt : k < L.length
    · obtain ⟨ad, b, rfl, hadb, Hb, hcb⟩ := Tf.get (H.out.below hb hB) hlt
      have Hmem := hid hmem
      have Hok := hid hok
      have Hsh := hid hsh
      clear hmem hok hsh
      have hkl : l.length ≤ k / 64 + 1 := by omega
      cases b with
      | false =>
        go_wp2_with fail
        go_loopw [3] (fun sv wr2 => sv = .slice A1 l.length c1 ∧ wr2.ownsRow w.heap.size 35 1 (.slice A1 l.length c1) l.length (l.map ucell) ∧ Below w.heap.size w wr2 ∧ wr2 = wr) (fun _ _ => 0)
        case atStart => exact ⟨rfl, hown, hb, rfl⟩
        case round =>
          obtain ⟨rfl, hown, hb, rfl⟩ := hrel
          go_wp2_with fail
          refine ⟨⟨k + 1, l, A1, c1, by go_num, by omega, by omega, rfl, hown, Hok.out, Hsh.out, fun j => ?_, hb⟩, by simp [intOf]; omega⟩
          rw [Hmem.out]
          by_cases hj : j = k
          · subst hj; rw [Hb.out, Bool.and_false, Bool.and_false]
          · congr 1; rw [decide_eq_decide]; omega
      | true =>
        go_wp2_with fail
        go_loopw [3] (fun sv wr2 => ∃ (z : Nat) (A2 : Option Addr) (c2 : Nat), l.length + z ≤ k / 64 + 1 ∧ sv = .slice A2 (l.length + z) c2 ∧ wr2.ownsRow w.heap.size 35 1 (.slice A2 (l.length + z) c2) (l.length + z) ((l ++ List.replicate z 0).map ucell) ∧ Below w.heap.size w wr2) (fun sv _ => k / 64 + 2 - slen sv)
        case atStart => exact ⟨0, A1, c1, by omega, rfl, by rw [List.replicate_zero, List.append_nil]; exact hown, hb⟩
        case round =>
          clear hown hb hcb
          obtain ⟨z, A2, c2, hz, rfl, hown, hb⟩ := hrel
          obtain ⟨ad', b', e', _, Hb', hcb⟩ := Tf.get (H.out.below hb hB) hlt
          injection e' with e'
          subst e'
          rw [Hb.out] at Hb'
          obtain rfl : true = b' := Hb'.out
          by_cases hless : l.length + z ≤ k / 64
          · have hless' : ((l.length + z : Nat) : Int) ≤ (k : Int) / 64 := by omega
            have hn3 : l.length + z + 1 ≤ maxLen := by unfold maxLen; omega
            have hn4 : (l.length + z + 1) * 8 ≤ 140737488355328 := by omega
            have hbs := hb.size
            go_wp2_with (at_builtin; refine wpList_append_own _ rfl _ _ 22 rfl w.heap.size 35 i0 (.int .u64 0) 1 8 Tryd.underlying22 hi hz0 hz1 hz2 rfl (by decide) _ _ _ rfl (hown.alloc _) ⟨_, 0, none⟩ 1 1 [.int .u64 0] rfl rfl (lit_one _ _ _) (int_one _ _) hn3 hn4 (le_alloc hbs _) ?_; intro v1 w2 hown2 hgrow _)
            have hb2 : Below w.heap.size w w2 := (hb.alloc hbs _).grown hgrow (le_alloc hbs _) (fun k hk => (hown.lt k hk).1)
            obtain ⟨A3, c3, rfl, _, _⟩ := own_rd hown2
            refine ⟨⟨z + 1, A3, c3, by omega, rfl, ?_, hb2⟩, by simp only [slen]; omega⟩
            rw [← Nat.add_assoc, List.replicate_succ', ← List.append_assoc, List.map_append]
            exact hown2
          · have hless' : (k : Int) / 64 < ((l.length + z : Nat) : Int) := by omega
            have hz1 : l.length + z = k / 64 + 1 := by omega
            obtain ⟨g, rfl⟩ : ∃ g, A2 = some ⟨g, 0, none⟩ := by
              rcases hown.2 with ⟨_, h0⟩ | ⟨g, cap, _, hv, _⟩
              · omega
              · injection hv with hv; exact ⟨g, hv⟩
            have Hput := hid (Bst.put_top (L := l ++ List.replicate z 0) (i := k) (Hok.out.zeros z) (by rw [List.length_append, List.length_replicate]; exact hz1) (fun j hj => by
              rw [Bst.mem_zeros, Hmem.out, Bool.and_eq_true, decide_eq_true_iff] at hj
              exact hj.1))
            have hll : (l ++ List.replicate z 0).length = l.length + z := by rw [List.length_append, List.length_replicate]
            have Hm2 := hid (fun j => Bst.mem_zeros l z j)
            generalize l ++ List.replicate z 0 = L1 at *
            have hget := hown.cellAt (k / 64) (by omega)
            have hfz := hown.frozenAt (k / 64)
            rw [List.getElem?_map, List.getElem?_eq_getElem (by omega)] at hget
            have Hx := hid (show L1.getD (k / 64) 0 = L1[k / 64]'(by omega) by rw [List.getD_eq_getElem?_getD, List.getElem?_eq_getElem (by omega)]; rfl)
            rw [Hx.out] at Hput
            generalize L1[k / 64]'(by omega) = x at *
            change _ = some (Value.int .u64 (x : Int)) at hget
            have Hown := hid hown
            have Hw := hid (wrap_put x (k % 64) Hput.out.2.1)
            go_wp2_with fail
            refine ⟨⟨k + 1, L1.set (k / 64) (x + 2 ^ (k % 64)), some ⟨g, 0, none⟩, c2, by go_num, by omega, by rw [List.length_set]; omega, by rw [List.length_set, hll], ?_, Hput.out.2.2.1, Hput.out.2.2.2.1, fun j => ?_, hb.setCell (p := ⟨g, k / 64, none⟩) (Hown.out.lt g rfl).1 _⟩, by simp [intOf]; omega⟩
            · have hst := (World.ownsRow.stored Hown.out (k / 64) (ucell (x + 2 ^ (k % 64)))).1
              rw [← List.map_set] at hst
              rw [Hw.out, List.length_set, hll]
              exact hst
            · rw [Hput.out.2.2.2.2, Hm2.out, Hmem.out]
              by_cases hj : j = k
              · subst hj; rw [Hb.out, decide_eq_true rfl, Bool.or_true, decide_eq_true (by omega)]; rfl
              · rw [decide_eq_false hj, Bool.or_false]; congr 1; rw [decide_eq_decide]; omega
    · obtain rfl : k = L.length := by omega
      go_wp2_with fail
      go_ret
      exact SetRet.mk l hown rfl rfl hok hsh (fun j => by
        rw [hmem]
        by_cases hj : j < L.length
        · rw [decide_eq_true hj]; rfl
        · rw [decide_eq_false hj, List.getD_eq_getElem?_getD, List.getElem?_eq_none (by omega)]; rfl) hb
end Go.Proofs.YteejccppdmjlaaaDoor

/- Layer 6's code: with, without. -/
import Derived.Test.YtbkabjnklipmjaaTrB
namespace Go.Proofs.Ytbkabjnklipmjaa
open Go.RowKit Go.Shelf
open Tbm (Kv Tr)

theorem FkRet.mk0 {G : Nat → Prop} {w : World} {k v : List UInt8} (hG : ∀ b, w.heap.size ≤ b → G b) :
    BalRet G [(k, v)] w (.returned (ptr w.heap.size)) (w.alloc (.cells #[txt k, txt v, .int .i64 1, .pointer none, .pointer none] 59)) := by
  have hb := ((Below.refl w.heap.size w).alloc (Nat.le_refl _) (.cells #[txt k, txt v, .int .i64 1, .pointer none, .pointer none] 59))
  exact ⟨_, .node .leaf k v .leaf, rfl, rfl, ⟨_, none, none, rfl, hG _ (Nat.le_refl _), World.alloc_heap_new w _, rfl, rfl⟩, hb⟩
theorem put_len (m : List Kv) (key v : List UInt8) (h : Tbm.Srt m) : (Tbm.put m key v).length ≤ m.length + 1 := by
  rw [Tbm.len_put h]; split <;> omega
theorem FkRet.bal {G : Nat → Prop} {T : Tr} {m : List Kv} {w w' : World} {e : Ending} (h : FkRet G T w e w') (hm : T.flat = m) : BalRet G m w e w' := by
  obtain ⟨b, he, ht, hb⟩ := h
  exact ⟨b, T, he, hm, ht, hb⟩
set_option maxRecDepth 20000 in
set_option maxHeartbeats 4000000 in
theorem p_with (key v : List UInt8) (G : Nat → Prop) (T : Tr) : ∀ (w : World) (q : Option Addr), (∀ b, w.heap.size ≤ b → G b) → IsTr G w q T → Tbm.Srt T.flat → T.flat.length ≤ 800000 →
    Calls Try.prog 27 #[.pointer q, txt key, txt v] w (BalRet G (Tbm.put T.flat key v) w) := by
  induction T with
  | leaf =>
    intro w q hG h _ _
    obtain rfl : q = none := h
    have HG := hid hG
    clear hG
    go_enter Try.func27, Try.ntmps27
    go_wp2_with fail
    go_ret
    exact FkRet.mk0 HG.out
  | node l k u r ihl ihr =>
    intro w q hG h hs hn
    obtain ⟨b, pl, pr, rfl, hGb, hb, hl, hr⟩ := h
    have Hlt := hid (lt_of_heap hb)
    obtain ⟨c0, c1, c2, c3, c4⟩ := nd_cells hb
    have Hn := hid (show NdAt w (some ⟨b, 0, none⟩) k u from ⟨b, rfl, lt_of_heap hb, c0, c1⟩)
    have HS := hid hs
    rw [Tbm.Tr.len_node] at hn
    rw [Tbm.Tr.flat_node] at HS ⊢
    have Hlen := hid hn
    have HG := hid hG
    have Hl := hid hl
    have Hr := hid hr
    have bd := hid (below_dr w)
    obtain ⟨sl, sr, _, _⟩ := Tbm.srt_mid HS.out
    have e0 := less_bs key k
    have e1 := less_bs k key
    rcases Tbm.less_tri key k with hk | hk | hk
    · have hk' := Tbm.less_asymm hk
      have I := hid (ihl w.drew pl (fun b h => HG.out b h) (hl.below bd.out) sl (by omega))
      unfold BalRet at I
      have hpl := hid (put_len l.flat key v sl)
      rw [hk] at e0
      rw [hk'] at e1
      have Hput := hid (Tbm.put_lt HS.out v hk)
      have hS2 := And.intro (show w.drew.cell? ⟨b, 3, none⟩ = some (.pointer pl) from c3) (show w.drew.cell? ⟨b, 4, none⟩ = some (.pointer pr) from c4)
      clear ihl ihr hl hr hb sl sr hs hn hG hk hk' hGb
      go_enter Try.func27, Try.ntmps27
      go_wp2_with fail
      go_region_held3 (fun X => X.cell? ⟨b, 3, none⟩ = some (.pointer pl) ∧ X.cell? ⟨b, 4, none⟩ = some (.pointer pr)) (first | exact hS2 | go_keep) (first
        | (go_at_call 27; with_reducible refine (I.out).mono ?_; rintro e w2 ⟨b2, T2, rfl, e2, t2, hb2⟩; have hS2 := keep2 hS2 hb2; have B2 := below2 bd.out hb2
           have F2 := hid (p_balance (G := G) (w := w2) (fun b h => HG.out b (Nat.le_trans B2.size h)) (Hn.out.below B2) t2 (Hr.out.below B2) (by rw [e2]; have := hpl.out; have := Hlen.out; omega)); unfold BalRet at F2; clear I)
        | (go_at_call 33; with_reducible refine (F2.out).mono ?_; rintro e w3 ⟨b3, T3, rfl, e3, t3, hb3⟩; have hS2 := keep2 hS2 hb3; clear F2))
      go_wp2_with fail
      go_ret
      exact ⟨b3, T3, rfl, by rw [e3, e2, Hput.out], t3, below2 B2 hb3⟩
    · subst hk
      have hk' := Tbm.less_irrefl key
      rw [hk'] at e0 e1
      have Hput := hid (Tbm.put_at HS.out v)
      have hS2 := And.intro (show w.drew.cell? ⟨b, 2, none⟩ = some (.int .i64 ((l.flat.length + 1 + r.flat.length : Nat) : Int)) from c2) (And.intro (show w.drew.cell? ⟨b, 3, none⟩ = some (.pointer pl) from c3) (show w.drew.cell? ⟨b, 4, none⟩ = some (.pointer pr) from c4))
      obtain ⟨z, hz⟩ : ∃ z, ((l.flat.length + 1 + r.flat.length : Nat) : Int) = z := ⟨_, rfl⟩
      rw [hz] at hS2 c2
      have Hz := hid hz
      clear ihl ihr hl hr hb sl sr hs hn hG hk' hGb hz
      go_enter Try.func27, Try.ntmps27
      go_wp2_with fail
      go_region_held3 (fun X => X.cell? ⟨b, 2, none⟩ = some (.int .i64 z) ∧ X.cell? ⟨b, 3, none⟩ = some (.pointer pl) ∧ X.cell? ⟨b, 4, none⟩ = some (.pointer pr)) (first | exact hS2 | go_keep) (first | fail)
      go_wp2_with fail
      go_ret
      exact (FkRet.mk (l := l) (r := r) HG.out Hl.out Hr.out Hz.out.symm rfl).bal Hput.out.symm
    · have hk' := Tbm.less_asymm hk
      have I := hid (ihr w.drew pr (fun b h => HG.out b h) (hr.below bd.out) sr (by omega))
      unfold BalRet at I
      have hpl := hid (put_len r.flat key v sr)
      rw [hk'] at e0
      rw [hk] at e1
      have e2 : ((bs key).toList == (bs k).toList) = false := by rw [beq_txt, beq_eq_false_iff_ne]; exact fun e => Tbm.less_ne hk e.symm
      have Hput := hid (Tbm.put_gt HS.out v hk)
      have hS2 := And.intro (show w.drew.cell? ⟨b, 3, none⟩ = some (.pointer pl) from c3) (show w.drew.cell? ⟨b, 4, none⟩ = some (.pointer pr) from c4)
      clear ihl ihr hl hr hb sl sr hs hn hG hk hk' hGb
      go_enter Try.func27, Try.ntmps27
      go_wp2_with fail
      go_region_held3 (fun X => X.cell? ⟨b, 3, none⟩ = some (.pointer pl) ∧ X.cell? ⟨b, 4, none⟩ = some (.pointer pr)) (first | exact hS2 | go_keep) (first
        | (go_at_call 27; with_reducible refine (I.out).mono ?_; rintro e w2 ⟨b2, T2, rfl, e2, t2, hb2⟩; have hS2 := keep2 hS2 hb2; have B2 := below2 bd.out hb2
           have F2 := hid (p_balance (G := G) (w := w2) (fun b h => HG.out b (Nat.le_trans B2.size h)) (Hn.out.below B2) (Hl.out.below B2) t2 (by rw [e2]; have := hpl.out; have := Hlen.out; omega)); unfold BalRet at F2; clear I)
        | (go_at_call 33; with_reducible refine (F2.out).mono ?_; rintro e w3 ⟨b3, T3, rfl, e3, t3, hb3⟩; have hS2 := keep2 hS2 hb3; clear F2))
      go_wp2_with fail
      go_ret
      exact ⟨b3, T3, rfl, by rw [e3, e2, Hput.out], t3, below2 B2 hb3⟩
/-- hands out a tree over these pairs, or nil where there are none -/
def WoRet (G : Nat → Prop) (m : List Kv) (w : World) (e : Ending) (w' : World) : Prop := ∃ q T, e = .returned (.pointer q) ∧ T.flat = m ∧ IsTr G w' q T ∧ Below w.heap.size w w'
theorem BalRet.wo {G : Nat → Prop} {m : List Kv} {w w' : World} {e : Ending} (h : BalRet G m w e w') : WoRet G m w e w' := by
  obtain ⟨b, T, he, r⟩ := h
  exact ⟨_, T, he, r⟩
theorem keep3 {X X' : World} {b o b' o' b'' o'' : Nat} {u u' u'' : Value} (h : X.cell? ⟨b, o, none⟩ = some u ∧ X.cell? ⟨b', o', none⟩ = some u' ∧ X.cell? ⟨b'', o'', none⟩ = some u'') (hb : Below X.heap.size X X') : X'.cell? ⟨b, o, none⟩ = some u ∧ X'.cell? ⟨b', o', none⟩ = some u' ∧ X'.cell? ⟨b'', o'', none⟩ = some u'' :=
  ⟨(hb.cell (p := ⟨b, o, none⟩) (cell_lt h.1)).trans h.1, (hb.cell (p := ⟨b', o', none⟩) (cell_lt h.2.1)).trans h.2.1, (hb.cell (p := ⟨b'', o'', none⟩) (cell_lt h.2.2)).trans h.2.2⟩
set_option maxRecDepth 20000 in
set_option maxHeartbeats 4000000 in
theorem p_without (G : Nat → Prop) (T : Tr) : ∀ (w : World) (q : Option Addr) (key : List UInt8), (∀ b, w.heap.size ≤ b → G b) → IsTr G w q T → Tbm.Srt T.flat → T.flat.length ≤ 800000 → (Tbm.get T.flat key).isSome = true →
    Calls Try.prog 28 #[.pointer q, txt key] w (WoRet G (Tbm.del T.flat key) w) := by
  induction T with
  | leaf =>
    intro w q key _ _ _ _ hg
    cases hg
  | node l k u r ihl ihr =>
    intro w q key hG h hs hn hg
    obtain ⟨b, pl, pr, rfl, hGb, hb, hl, hr⟩ := h
    have Hlt := hid (lt_of_heap hb)
    obtain ⟨c0, c1, c2, c3, c4⟩ := nd_cells hb
    have Hn := hid (show NdAt w (some ⟨b, 0, none⟩) k u from ⟨b, rfl, lt_of_heap hb, c0, c1⟩)
    have HS := hid hs
    rw [Tbm.Tr.len_node] at hn
    rw [Tbm.Tr.flat_node] at HS hg ⊢
    have hg := hid hg
    have Hlen := hid hn
    have HG := hid hG
    have Hl := hid hl
    have Hr := hid hr
    have bd := hid (below_dr w)
    obtain ⟨sl, sr, _, _⟩ := Tbm.srt_mid HS.out
    have e0 := less_bs key k
    have e1 := less_bs k key
    rcases Tbm.less_tri key k with hk | hk | hk
    · have hk' := Tbm.less_asymm hk
      have I := hid (ihl w.drew pl key (fun b h => HG.out b h) (hl.below bd.out) sl (by omega) (by rw [← hg.out, Tbm.get_lt HS.out hk]))
      unfold WoRet at I
      have hpl := hid (List.length_filter_le (fun p : Kv => p.1 != key) l.flat)
      rw [hk] at e0
      rw [hk'] at e1
      have Hdel := hid (Tbm.del_lt HS.out hk)
      have hS2 := And.intro (show w.drew.cell? ⟨b, 3, none⟩ = some (.pointer pl) from c3) (show w.drew.cell? ⟨b, 4, none⟩ = some (.pointer pr) from c4)
      clear ihl ihr hl hr hb sl sr hs hn hG hk hk' hGb hg
      go_enter Try.func28, Try.ntmps28
      go_wp2_with fail
      go_region_held3 (fun X => X.cell? ⟨b, 3, none⟩ = some (.pointer pl) ∧ X.cell? ⟨b, 4, none⟩ = some (.pointer pr)) (first | exact hS2 | go_keep) (first
        | (go_at_call 28; with_reducible refine (I.out).mono ?_; rintro e w2 ⟨q2, T2, rfl, e2, t2, hb2⟩; have hS2 := keep2 hS2 hb2; have B2 := below2 bd.out hb2
           have F2 := hid (p_balance (G := G) (w := w2) (fun b h => HG.out b (Nat.le_trans B2.size h)) (Hn.out.below B2) t2 (Hr.out.below B2) (by rw [e2]; have := hpl.out; have := Hlen.out; unfold Tbm.del; omega)); unfold BalRet at F2; clear I)
        | (go_at_call 33; with_reducible refine (F2.out).mono ?_; rintro e w3 ⟨b3, T3, rfl, e3, t3, hb3⟩; have hS2 := keep2 hS2 hb3; clear F2))
      go_wp2_with fail
      go_ret
      exact ⟨_, T3, rfl, by rw [e3, e2, Hdel.out], t3, below2 B2 hb3⟩
    · subst hk
      have hk' := Tbm.less_irrefl key
      rw [hk'] at e0 e1
      have Hdel := hid (Tbm.del_at HS.out)
      cases r with
      | leaf =>
        obtain rfl : pr = none := hr
        clear ihl ihr hl hb sl sr hs hn hG hk' hGb hg
        go_enter Try.func28, Try.ntmps28
        go_wp2_with fail
        go_ret
        exact ⟨_, l, rfl, by rw [Hdel.out]; simp [Tbm.Tr.flat], Hl.out, Below.refl _ _⟩
      | node rl rk ru rr =>
        obtain ⟨p1, rest, hrf⟩ : ∃ p rest, (Tr.node rl rk ru rr).flat = p :: rest := by
          cases hc : (Tr.node rl rk ru rr).flat with
          | nil => rw [Tbm.Tr.flat_node] at hc; simp at hc
          | cons p rest => exact ⟨p, rest, rfl⟩
        obtain ⟨nk, nv⟩ := p1
        have P := hid (p_pick hr (by omega) 0 (by simp [I64]))
        rw [hrf, Tbm.nth_zero] at P
        unfold PckRet at P
        have Hrf := hid hrf
        have Hrs : Hid (Tbm.Srt ([] ++ (nk, nv) :: rest)) := hid (by rw [List.nil_append, ← hrf]; exact sr)
        have I := hid (ihr w.drew pr nk (fun b h => HG.out b h) (hr.below bd.out) sr (by omega) (by rw [hrf, ← List.nil_append ((nk, nv) :: rest), Tbm.get_at Hrs.out]; rfl))
        unfold WoRet at I
        have Hrd : Hid (Tbm.del (Tr.node rl rk ru rr).flat nk = rest) := hid (by rw [hrf, ← List.nil_append ((nk, nv) :: rest), Tbm.del_at Hrs.out, List.nil_append])
        rw [Hrd.out] at I
        have Hlr : Hid (rest.length + 1 = (Tr.node rl rk ru rr).flat.length) := hid (by rw [hrf, List.length_cons])
        have hpr : ∃ br, pr = some ⟨br, 0, none⟩ := by obtain ⟨br, _, _, e, _⟩ := hr; exact ⟨br, e⟩
        obtain ⟨br, rfl⟩ := hpr
        generalize Tr.node rl rk ru rr = r at *
        clear ihl ihr hl hr hb sl sr hs hn hG hk' hGb hg hrf Hrd
        go_enter Try.func28, Try.ntmps28
        go_wp2_with fail
        refine (P.out).mono ?_
        rintro e w' ⟨q3, rfl, rfl, _, hnx⟩
        have Hnx := hid (hnx _ rfl)
        obtain ⟨bx, rfl, hxlt, x0, x1⟩ := hnx _ rfl
        have hS2 := And.intro (show w.drew.cell? ⟨b, 3, none⟩ = some (.pointer pl) from c3) (And.intro (show w.drew.cell? ⟨b, 4, none⟩ = some (.pointer (some ⟨br, 0, none⟩)) from c4) (show w.drew.cell? ⟨bx, 0, none⟩ = some (txt nk) from x0))
        clear hnx P
        go_wp2_with fail
        go_region_held3 (fun X => X.cell? ⟨b, 3, none⟩ = some (.pointer pl) ∧ X.cell? ⟨b, 4, none⟩ = some (.pointer (some ⟨br, 0, none⟩)) ∧ X.cell? ⟨bx, 0, none⟩ = some (txt nk)) (first | exact hS2 | go_keep) (first
          | (go_at_call 28; with_reducible refine (I.out).mono ?_; rintro e w2 ⟨q2, T2, rfl, e2, t2, hb2⟩; have hS2 := keep3 hS2 hb2; have B2 := below2 bd.out hb2
             have F2 := hid (p_balance (G := G) (w := w2) (fun b h => HG.out b (Nat.le_trans B2.size h)) (Hnx.out.below B2) (Hl.out.below B2) t2 (by rw [e2]; have := Hlr.out; have := Hlen.out; omega)); unfold BalRet at F2; clear I)
          | (go_at_call 33; with_reducible refine (F2.out).mono ?_; rintro e w3 ⟨b3, T3, rfl, e3, t3, hb3⟩; have hS2 := keep3 hS2 hb3; clear F2))
        go_wp2_with fail
        go_ret
        exact ⟨_, T3, rfl, by rw [e3, e2, Hdel.out, Hrf.out], t3, below2 B2 hb3⟩
    · have hk' := Tbm.less_asymm hk
      have I := hid (ihr w.drew pr key (fun b h => HG.out b h) (hr.below bd.out) sr (by omega) (by rw [← hg.out, Tbm.get_gt HS.out hk]))
      unfold WoRet at I
      have hpl := hid (List.length_filter_le (fun p : Kv => p.1 != key) r.flat)
      rw [hk'] at e0
      rw [hk] at e1
      have e2 : ((bs key).toList == (bs k).toList) = false := by rw [beq_txt, beq_eq_false_iff_ne]; exact fun e => Tbm.less_ne hk e.symm
      have Hdel := hid (Tbm.del_gt HS.out hk)
      have hS2 := And.intro (show w.drew.cell? ⟨b, 3, none⟩ = some (.pointer pl) from c3) (show w.drew.cell? ⟨b, 4, none⟩ = some (.pointer pr) from c4)
      clear ihl ihr hl hr hb sl sr hs hn hG hk hk' hGb hg
      go_enter Try.func28, Try.ntmps28
      go_wp2_with fail
      go_region_held3 (fun X => X.cell? ⟨b, 3, none⟩ = some (.pointer pl) ∧ X.cell? ⟨b, 4, none⟩ = some (.pointer pr)) (first | exact hS2 | go_keep) (first
        | (go_at_call 28; with_reducible refine (I.out).mono ?_; rintro e w2 ⟨q2, T2, rfl, e2, t2, hb2⟩; have hS2 := keep2 hS2 hb2; have B2 := below2 bd.out hb2
           have F2 := hid (p_balance (G := G) (w := w2) (fun b h => HG.out b (Nat.le_trans B2.size h)) (Hn.out.below B2) (Hl.out.below B2) t2 (by rw [e2]; have := hpl.out; have := Hlen.out; unfold Tbm.del; omega)); unfold BalRet at F2; clear I)
        | (go_at_call 33; with_reducible refine (F2.out).mono ?_; rintro e w3 ⟨b3, T3, rfl, e3, t3, hb3⟩; have hS2 := keep2 hS2 hb3; clear F2))
      go_wp2_with fail
      go_ret
      exact ⟨_, T3, rfl, by rw [e3, e2, Hdel.out], t3, below2 B2 hb3⟩
end Go.Proofs.Ytbkabjnklipmjaa

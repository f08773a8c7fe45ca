/- The law's from (layer 6): what is told from a key on, at most so many. -/
import Derived.Test.YtbkabjnklipmjaaTabI
namespace Go.Proofs.Ytbkabjnklipmjaa
open Go.RowKit Go.Shelf
open Tbm (Kv)
attribute [local go_sem] Oper.semAt_some

theorem own_weak {w : World} {base base' size : Nat} {e : TypeId} {v : Value} {n : Nat} {xs : List Value} (h : w.ownsRow base e size v n xs) (hb : base' ≤ base) : w.ownsRow base' e size v n xs := by
  refine ⟨h.1, ?_⟩
  rcases h.2 with h0 | ⟨g, cap, cur, hv, hg, r⟩
  · exact .inl h0
  · exact .inr ⟨g, cap, cur, hv, Nat.le_trans hb hg, r⟩

set_option maxRecDepth 100000 in
set_option maxHeartbeats 4000000 in
theorem l_from_any {w : World} {pv : Value} {M : List Kv} {O : Nat → Prop} (hO : ∀ b, O b → b < w.heap.size) (key : List UInt8) (HF : Hid (∀ w' : World, Below w.heap.size w w' → Calls Try.prog 23 #[pv, txt key] w' (FromRet O M w'))) (hfl : M.length ≤ 10000) (most : Int) (_hmost : I64 most) :
    Calls Try.prog 19 #[pv, txt key, .int .i64 most] w (PrRet (M.take most.toNat) w) := by
  obtain ⟨mst, hmst⟩ : ∃ mst, most.toNat = mst := ⟨_, rfl⟩
  rw [hmst]
  obtain ⟨i0, hi, hz0, hz1, hz2⟩ := info_parts Try.info_pair
  refine (callsIn_wide (n := 6)).1 ?_
  refine callsIn_of_wp_marks Try.func19 rfl trivial ?_ rfl
  simp only [Try.ntmps19, List.size_toArray, List.length_cons, List.length_nil, Nat.reduceAdd, Nat.reduceSub, Array.replicate_succ, Array.replicate_zero, List.push_toArray, List.append_toArray, List.nil_append, List.cons_append]
  gi_wp2
  have B5 := (Boxed.new w 3 (.int .i64 most)).alloc (.cells #[.slice none 0 0] 29)
  have B7 := Boxed.new (w.alloc (.cells #[.int .i64 most] 3)) 29 (.slice none 0 0)
  rw [World.size_alloc] at B7
  have hb0 : Below w.heap.size w ((w.alloc (.cells #[.int .i64 most] 3)).alloc (.cells #[.slice none 0 0] 29)) := ((Below.refl _ w).alloc (Nat.le_refl _) _).alloc (by simp) _
  have hsz : ((w.alloc (.cells #[.int .i64 most] 3)).alloc (.cells #[.slice none 0 0] 29)).heap.size = w.heap.size + 2 := by simp
  obtain ⟨W0, hW0⟩ : ∃ W0, (w.alloc (.cells #[.int .i64 most] 3)).alloc (.cells #[.slice none 0 0] 29) = W0 := ⟨_, rfl⟩
  rw [hW0] at B5 B7 hb0 hsz ⊢
  clear hW0
  have hF := HF.out W0 hb0
  refine ⟨trivial, (callsIn_wide.2 hF).mono ?_⟩
  rintro e W3 ⟨gf, lb, rfl, hen, b3, S, hS, hseq⟩
  have B5' := bx_below B5 b3 (by omega)
  have B7' := bx_below B7 b3 (by omega)
  have hb3 := below2 hb0 b3
  have hs3 := b3.size
  have hnil := fun (w : World) => run_eql_func_nil (P := Try.prog) w 50 Try.underlying50 (.func gf) #[] lb
  gi_wp2
  obtain ⟨LB, hLB⟩ : ∃ LB, w.heap.size + 1 = LB := ⟨_, rfl⟩
  rw [hLB] at B7' ⊢
  have hLB' := hid hLB
  clear hLB
  have hSl : ∀ b, S b → b < W3.heap.size := fun b hb => (hS b hb).2
  have hSL : ∀ b, S b → b ≠ LB := fun b hb => by have h1 := hLB'.out; rcases (hS b hb).1 with h | h; (have := hO b h; omega); omega
  have hML : w.heap.size ≠ LB := by have := hLB'.out; omega
  have hwL : w.heap.size ≤ LB := by have := hLB'.out; omega
  have hw3 : w.heap.size ≤ W3.heap.size := hb3.size
  refine wpIn_rangeFunc_ownG rfl (by decide) (gf := gf) (lb := lb) rfl trivial hen
    (hseq (6 - 1) (by decide) w.heap.size W3 (fun _ _ => rfl) (Nat.le_refl _)) KpS.t (KpS.b hw3 hSl) (Below.refl _ _) (fun _ => rfl)
    (fun pre W => (∃ v, Boxed W LB 29 v ∧ W.ownsRow W3.heap.size 47 2 v pre.length (pcells pre) ∧ True) ∧ pre.length ≤ mst ∧ Boxed W w.heap.size 3 (.int .i64 most) ∧ Below w.heap.size W3 W)
    (fun cd pre W => cd = .exit 0 ∧ pre.length = mst + 1 ∧ (∃ v, Boxed W LB 29 v ∧ W.ownsRow W3.heap.size 47 2 v pre.dropLast.length (pcells pre.dropLast) ∧ True) ∧ Below w.heap.size W3 W)
    (OwnFrom.and (Own.from (holdsRow_own W3.heap.size LB 29 47 2 (fun pre => pre.length) (fun pre => pcells pre) (fun _ _ => True)) _) (OwnFrom.and (ownFrom_pure _ (fun pre : List Kv => pre.length ≤ mst)) (OwnFrom.and (Own.from (boxed_own _ _ (fun _ => .int .i64 most)) _) (ownFrom_below hw3 hw3))))
    (fun cd => OwnFrom.and (ownFrom_pure _ (fun _ : List Kv => cd = .exit 0)) (OwnFrom.and (ownFrom_pure _ (fun pre : List Kv => pre.length = mst + 1)) (OwnFrom.and (Own.from (holdsRow_own W3.heap.size LB 29 47 2 (fun pre : List Kv => pre.dropLast.length) (fun pre => pcells pre.dropLast) (fun _ _ => True)) _) (ownFrom_below hw3 hw3))))
    ⟨⟨_, B7', World.ownsRow_nil _ _ _ _, trivial⟩, Nat.zero_le _, B5', Below.refl _ _⟩
    (fun x => { tmps := #[pv, txt key, .int .i64 most, undef, undef, .pointer (some ⟨w.heap.size, 0, none⟩), .slice none 0 0, .pointer (some ⟨LB, 0, none⟩), .func (.func gf) #[] lb, txt x.1, txt x.2, pv, txt key, .func (.func gf) #[] lb, .func (.func gf) #[] lb, .bool false, undef, .func (.func gf) #[] lb, txt x.1, txt x.2, undef, undef, undef, undef, undef, undef, undef, undef, undef, undef, undef], defers := [] }) ?assign ?body ?done ?stop
  case assign =>
    intro l x W K hK
    simp only [kvEnc]
    gi_wp2
    exact hK
  case body =>
    rintro l pre x W ⟨⟨v, hv, hrow, _⟩, hpl, hmb, hB⟩ hlt
    obtain ⟨A1, c1, rfl, _, _, _⟩ := own_rdN hrow
    have hc := hv.cell
    have hcm := hmb.cell
    by_cases hge : most ≤ (pre.length : Int)
    · gi_wp2
      exact ⟨KeepsFrom.refl _ _, rfl, by rw [List.length_append]; show pre.length + 1 = mst + 1; omega, ⟨_, hv, by rw [List.dropLast_concat]; exact hrow, trivial⟩, hB⟩
    · have hge' : (pre.length : Int) < most := by omega
      have hone : ∀ u ∈ [txt x.1, txt x.2], u.oneCell' = true := pcells_one [x]
      have hn3 : pre.length + 1 ≤ maxLen := by unfold maxLen; omega
      have hn4 : (pre.length + 1) * 32 ≤ 140737488355328 := by omega
      have hbs := hB.size
      have hbs1 : W3.heap.size ≤ (W.alloc (.cells #[txt x.1, txt x.2] 47)).heap.size := by simp; omega
      have hlit := fun (w : World) (t : TypeId) => lit_cells w [txt x.1, txt x.2] t (show 2 ≤ maxLen by unfold maxLen; omega)
      gi_wp2_with (gi_at_builtin; refine wpListIn_append_own _ rfl _ _ 29 rfl W3.heap.size 47 i0 (.agg #[.string ⟨#[]⟩, .string ⟨#[]⟩]) 2 32 Try.underlying29 hi hz0 hz1 hz2 rfl (by decide) _ _ _ rfl (hrow.alloc _) ⟨W.heap.size, 0, none⟩ 1 1 [txt x.1, txt x.2] rfl rfl (hlit _ _) hone hn3 hn4 hbs1 ?_; intro v' w1 hown' hgrow _; obtain ⟨g', cap', rfl⟩ := ownsRow_succ hown'; obtain ⟨hv1, hv2, hr2, hk2, _⟩ := hv.appended (n₀ := 0) (by decide) (own_weak hrow (Nat.zero_le _)) (Nat.zero_le _) (Nat.zero_le _) (own_weak hown' (Nat.zero_le _)) hgrow; have hc1 := hv1.cell; have hf1 := hv1.frozen)
      have hmb1 : Boxed (w1.setCell ⟨LB, 0, none⟩ (.slice (some ⟨g', 0, none⟩) (pre.length + 1) cap')) w.heap.size 3 (.int .i64 most) := ((hmb.alloc _).kept hgrow (hmb.not_row (by decide) hrow)).kept (grownBy_setCell' w1 LB _) (by simp; exact hML)
      have hbW : Below w.heap.size W w1 := ((Below.refl _ W).alloc (by omega) _).grown hgrow (by simp; omega) (fun k hk => Nat.le_trans hw3 (hrow.lt k hk).1)
      have hbW' : Below w.heap.size W (w1.setCell ⟨LB, 0, none⟩ (.slice (some ⟨g', 0, none⟩) (pre.length + 1) cap')) := hbW.setCell (p := ⟨LB, 0, none⟩) hwL _
      have hSk : ∀ b, S b → (w1.setCell ⟨LB, 0, none⟩ (.slice (some ⟨g', 0, none⟩) (pre.length + 1) cap')).heap[b]? = W.heap[b]? := fun b hb => by
        have hb1 := hSl b hb
        have hne : some b ≠ (Value.slice A1 pre.length c1).ownBlock := fun e => by have := (hrow.lt b e.symm).1; omega
        rw [(grownBy_setCell' w1 LB (.slice (some ⟨g', 0, none⟩) (pre.length + 1) cap')).block b (Nat.lt_of_lt_of_le (by rw [World.size_alloc]; omega) hgrow.size) (fun e => hSL b hb (by cases e; rfl)), hgrow.block b (by rw [World.size_alloc]; omega) hne]
        exact Below.heap_alloc W _ _ (by omega)
      have hr3 : (w1.setCell ⟨LB, 0, none⟩ (.slice (some ⟨g', 0, none⟩) (pre.length + 1) cap')).ownsRow W3.heap.size 47 2 (.slice (some ⟨g', 0, none⟩) (pre.length + 1) cap') (pre.length + 1) (pcells pre ++ [txt x.1, txt x.2]) := hown'.kept (grownBy_setCell' w1 LB _) (.inr (hv1.not_row (by decide) hown').symm)
      exact ⟨hk2.from _, ⟨hbW', hSk⟩, ⟨_, hv2, by rw [List.length_append, pcells_append]; exact hr3⟩, by rw [List.length_append]; show pre.length + 1 ≤ mst; omega, hmb1, hB.trans hbW'⟩
  case done =>
    rintro D ys W hD rfl ⟨⟨v, hv, hrow, _⟩, hpl, _, hB⟩ hK
    have hc := hv.cell
    gi_wp2
    refine ⟨by simp, .inl ⟨_, _, rfl, run_takeDeferred hK, ?_⟩⟩
    have hown := own_weak (ownsRow_putObj hrow (.deferred none) hK rfl) hw3
    refine ⟨_, results_tmp rfl _ _ _, ?_⟩
    rw [List.take_of_length_le hpl]
    exact PrRet.mk hown rfl rfl ((hb3.trans hB).trans (belowK_b (w := W3) hw3 W D _ _ hD hK rfl rfl))
  case stop =>
    rintro D cd pre W hD hpre ⟨rfl, hlen, ⟨v, hv, hrow, _⟩, hB⟩ hK
    have hc := hv.cell
    have hdl : pre.dropLast = M.take mst := by
      obtain ⟨r, rfl⟩ := hpre
      rw [List.dropLast_eq_take, hlen, Nat.add_sub_cancel, List.take_append_of_le_length (by omega)]
    rw [hdl] at hrow
    gi_wp2
    refine ⟨by simp, .inl ⟨_, _, rfl, run_takeDeferred hK, ?_⟩⟩
    have hown := own_weak (ownsRow_putObj hrow (.deferred none) hK rfl) hw3
    exact ⟨_, results_tmp rfl _ _ _, PrRet.mk hown rfl rfl ((hb3.trans hB).trans (belowK_b (w := W3) hw3 W D _ _ hD hK rfl rfl))⟩
theorem l_from {n₀ : Nat} {w : World} {p : Nat} {m : List Kv} (h : TbO n₀ w p m) (hm : m.length ≤ 10000) (key : List UInt8) (most : Int) (hmost : I64 most) :
    Calls Try.prog 19 #[ptr p, txt key, .int .i64 most] w (PrRet ((Tbm.from_ m key).take most.toNat) w) := by
  obtain ⟨F, h1, _⟩ := h
  exact l_from_any (O := fun b => F b ∧ b ≠ p) (fun b hb => h1.lt b hb.1) key (hid (fun w' hb => p_From (h1.below hb) hm key)) (by unfold Tbm.from_; rw [List.length_drop]; omega) most hmost
theorem n_from (key : List UInt8) (w : World) : Calls Try.prog 19 #[.pointer none, txt key, .int .i64 9] w fun e w' => ∃ A c, e = .returned (.slice A 0 c) ∧ Below w.heap.size w w' := by
  refine (l_from_any (M := []) (O := fun _ => False) (fun b hb => hb.elim) key (hid (fun w' _ => n_From key w')) (by simp) 9 (by simp [I64])).mono ?_
  rintro e w' ⟨A, c, he, _, _, _, hb⟩
  exact ⟨A, c, by rw [he]; rfl, hb⟩
end Go.Proofs.Ytbkabjnklipmjaa

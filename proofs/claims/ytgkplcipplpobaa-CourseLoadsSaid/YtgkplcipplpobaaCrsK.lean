/- The document's own Loads for layer 14 (course). -/
import Derived.Test.YtgkplcipplpobaaCrsJ
namespace Go.Proofs.Ytgkplcipplpobaa
open Go.RowKit
open Whn (Gr Wh)

section
variable {P : Program} (w : World)
/-- an append onto a row of the call's own, and where it stands behind it -/
theorem run_append_apartN (base : Nat) (t tx ty e : TypeId) (i : TypeInfo) (z : Value) (size bytes : Nat) (ht : P.underlying t = some (.slice e)) (hi : P.info? e = some i) (hz : i.zero = some z)
    (hsize : i.size = size) (hby : i.bytes = bytes) (hzs : z.cells.size = size) (v : Value) (n : Nat) (xs : List Value) (hown : w.ownsRow base e size v n xs)
    (x : Value) (m : Nat) (news : List Value) (hs : Src P size tx x m news w) (h63 : n + m ≤ maxLen) (hbytes : (n + m) * bytes ≤ 140737488355328) (hbase : base ≤ w.heap.size) :
    ∃ v' w', (Builtin.append_ #[t, tx] ty #[v, x]).run P w = .ok v' w' ∧ w'.ownsRow base e size v' (n + m) (xs ++ news) ∧ w.grownBy w' v.ownBlock ∧ (v'.ownBlock = v.ownBlock ∨ v'.ownBlock = some w.heap.size) := by
  have hs1 : Src P i.size tx x m news w := by rw [hsize]; exact hs
  have hnl := hs.newsLen
  have hgrow : ∀ (A : Option Addr) (cap : Nat) (hl : xs.length = n * size), cap < n + m → (Builtin.firstCells i.size n (.slice A n cap)).run P w.drew = .ok xs.toArray w.drew → ∀ ob ob2,
      ∃ v' w', (Builtin.append_ #[t, tx] ty #[.slice A n cap, x]).run P w = .ok v' w' ∧ w'.ownsRow base e size v' (n + m) (xs ++ news) ∧ w.grownBy w' ob ∧ (v'.ownBlock = ob2 ∨ v'.ownBlock = some w.heap.size) := by
    intro A cap hl hc hold ob ob2
    have hge := grownCap_ge w (n + m) cap e
    have hgm : grownCap w (n + m) cap e ≤ maxLen := grownCap_le_maxLen w (n + m) cap e h63
    have hr := run_append_grow_src (P := P) w t tx ty e i z ht hi hz A n cap xs hold x m news hs1 hc (by unfold maxLen at h63; omega) (growslice_fits hc (by rw [hby]; exact hbytes))
    have hlen : (xs ++ news).length = (n + m) * size := by rw [List.length_append, hl, hnl, Nat.add_mul]
    refine ⟨_, _, hr, ⟨hlen, .inr ⟨w.heap.size, _, _, rfl, hbase, heap_alloc_new w.drew _, hge, hgm, ?_, ?_⟩⟩, ⟨rfl, rfl, rfl, by simp, fun k hk _ => heap_alloc_old w.drew _ hk⟩, .inr rfl⟩
    · simp only [Array.size_append, List.size_toArray, size_zeroCells, hzs, hlen]
      rw [← Nat.add_mul]
      congr 1
      omega
    · simp only [Array.toList_append]
      rw [← hlen]
      exact List.take_left
  rcases hown with ⟨hxl, ⟨rfl, rfl⟩ | ⟨g, cap, cur, rfl, hbg, hg, hncap, hcm, hcs, htake⟩⟩
  · obtain rfl : xs = [] := List.eq_nil_of_length_eq_zero (by simpa using hxl)
    rcases Nat.eq_zero_or_pos m with rfl | hm
    · obtain rfl : news = [] := List.eq_nil_of_length_eq_zero (by simpa using hnl)
      refine ⟨.slice none 0 0, w, ?_, ⟨by simp, .inl ⟨rfl, rfl⟩⟩, ⟨rfl, rfl, rfl, Nat.le_refl _, fun _ _ _ => rfl⟩, .inl rfl⟩
      rcases hs1.kind with ⟨e', hk⟩ | hk <;> simp [Builtin.append_, run_underlying ht, run_underlying hk, sizeOf, typeInfo, hi, hs1.len, hs1.cells]
    · exact hgrow none 0 (by simp) (by omega) (by simp [run_firstCells_none]) _ _
  by_cases hroom : n + m ≤ cap
  · have hst := run_storeCells_at P g (n * i.size) e news 0 cur w hg (by rw [hsize, hcs, hnl, Nat.add_zero, ← Nat.add_mul]; exact Nat.mul_le_mul_right _ hroom) hs.one
    simp only [Nat.add_zero] at hst
    have hr : (Builtin.append_ #[t, tx] ty #[.slice (some ⟨g, 0, none⟩) n cap, x]).run P w = .ok (.slice (some ⟨g, 0, none⟩) (n + m) cap) (w.setRow g (cur.toList.take (n * i.size) ++ news ++ cur.toList.drop (n * i.size + news.length)).toArray) := by
      rcases hs1.kind with ⟨e', hk⟩ | hk <;> simp [Builtin.append_, run_underlying ht, run_underlying hk, sizeOf, typeInfo, hi, hs1.len, hroom, hs1.cells, Addr.add_lit, hst]
    have hlen : (xs ++ news).length = (n + m) * size := by rw [List.length_append, hxl, hnl, Nat.add_mul]
    have hle : n * size + news.length ≤ cap * size := by rw [hnl, ← Nat.add_mul]; exact Nat.mul_le_mul_right _ hroom
    refine ⟨_, _, hr, ⟨hlen, .inr ⟨g, cap, _, rfl, hbg, setRow_heap w g cur _ e _ hg, hroom, hcm, ?_, ?_⟩⟩, ⟨rfl, rfl, rfl, by simp, fun k _ hk => setRow_other w g k _ (fun e => hk (by rw [e]; rfl))⟩, .inl rfl⟩
    · simp only [List.size_toArray, List.length_append, List.length_take, List.length_drop, Array.length_toList, hsize]
      rw [hcs]
      omega
    · rw [hsize, htake, ← hlen]
      exact List.take_left
  · have holds : ∀ j u, xs[j]? = some u → w.cell? ((⟨g, 0, none⟩ : Addr).add j) = some u :=
      World.ownsRow.cells (v := .slice (some ⟨g, 0, none⟩) n cap) ⟨hxl, .inr ⟨g, cap, cur, rfl, hbg, hg, hncap, hcm, hcs, htake⟩⟩ rfl
    have hold : (Builtin.firstCells i.size n (.slice (some ⟨g, 0, none⟩) n cap)).run P w.drew = .ok xs.toArray w.drew :=
      run_firstCells_some w.drew i.size n ⟨g, 0, none⟩ n cap xs (by rw [hxl, hsize]) holds
    exact hgrow _ cap hxl (by omega) hold _ _
end
theorem wpList_append_apartN {P : Program} {w : World} {ops : Array Oper} {rest : List Oper} {o : Oper} {a : Act} {Q : Exit → Act → World → Prop} (hgd : o.guard = none) (s x : Operand) (t tx : TypeId)
    (ho : o.op = .call { callee := .builtin .append, args := #[s, x], argTypes := #[t, tx] })
    (base : Nat) (e : TypeId) (i : TypeInfo) (z : Value) (size bytes : Nat) (ht : P.underlying t = some (.slice e)) (hi : P.info? e = some i) (hz : i.zero = some z)
    (hsize : i.size = size) (hby : i.bytes = bytes) (hzs : z.cells.size = size) (v : Value) (n : Nat) (xs : List Value) (hs : a.eval s = v) (hown : w.ownsRow base e size v n xs)
    (xv : Value) (m : Nat) (news : List Value) (hx : a.eval x = xv) (hsrc : Src P size tx xv m news w) (h63 : n + m ≤ maxLen) (hbytes : (n + m) * bytes ≤ 140737488355328) (hbase : base ≤ w.heap.size)
    (h : ∀ v' w', w'.ownsRow base e size v' (n + m) (xs ++ news) → w.grownBy w' v.ownBlock → (v'.ownBlock = v.ownBlock ∨ v'.ownBlock = some w.heap.size) → wpList P ops Q rest (a.put o.dst v') w') : wpList P ops Q (o :: rest) a w := by
  refine wpList_plain hgd fun K hK' => ?_
  obtain ⟨v', w', hrun, r1, r2, r3⟩ := run_append_apartN (P := P) w base t tx o.type e i z size bytes ht hi hz hsize hby hzs v n xs hown xv m news hsrc h63 hbytes hbase
  unfold Oper.wp
  simp [execOp, ho, resolve, invoke, builtin, hs, hx, hrun, Result.andThen]
  exact hK' _ _ (h v' w' r1 r2 r3)
/-! ### the loads -/
theorem risingB_in {l : List Int} {e : Int} (h : risingB l e = true) : ∀ n ∈ l, 0 ≤ n ∧ n < e := by
  intro n hn
  obtain ⟨i, hi, rfl⟩ := List.mem_iff_getElem.1 hn
  have := List.all_eq_true.1 h i (List.mem_range.2 hi)
  unfold okR at this
  simp only [List.getD_eq_getElem?_getD, List.getElem?_eq_getElem hi, Option.getD_some, Bool.and_eq_true, decide_eq_true_eq, Bool.or_eq_true] at this
  omega
theorem right_ws {e : Int} {x : Cs} (h : csRight e x = true) : x.ws.length ≤ 4 ∧ ∀ ls ∈ x.ws, ls.length ≤ 4 ∧ ∀ l ∈ ls, l.length ≤ 8 ∧ ∀ n ∈ l, 0 ≤ n ∧ n < e := by
  unfold csRight at h
  simp only [Bool.and_eq_true, decide_eq_true_eq] at h
  refine ⟨h.1.2, fun ls hls => ?_⟩
  have h2 := List.all_eq_true.1 h.2 ls hls
  unfold wayR at h2
  simp only [Bool.and_eq_true, decide_eq_true_eq] at h2
  refine ⟨h2.1.2, fun l hl => ?_⟩
  obtain ⟨k, hk, rfl⟩ := List.mem_iff_getElem.1 hl
  have h3 := List.all_eq_true.1 h2.2 k (List.mem_range.2 hk)
  unfold partOk at h3
  simp only [List.getD_eq_getElem?_getD, List.getElem?_eq_getElem hk, Option.getD_some, Bool.and_eq_true, decide_eq_true_eq] at h3
  exact ⟨h3.1.1.2, risingB_in h3.1.2⟩
theorem allN_mem {ls : List (List Int)} : ∀ {k : Nat} {r : List Int}, r ∈ allN ls k → ∀ n ∈ r, ∃ l ∈ ls, n ∈ l
  | 0, r, h, n, hn => by
    rw [allN, List.mem_singleton] at h
    rw [h] at hn; cases hn
  | k + 1, r, h, n, hn => by
    rw [allN, List.mem_flatMap] at h
    obtain ⟨q, hq, hr⟩ := h
    unfold addC at hr
    obtain ⟨y, hy, rfl⟩ := List.mem_map.1 hr
    rcases List.mem_append.1 hn with h1 | h1
    · exact allN_mem hq n h1
    · rw [List.mem_singleton] at h1
      subst h1
      rw [List.getD_eq_getElem?_getD] at hy
      cases hk : ls[k]? with
      | none => rw [hk] at hy; cases hy
      | some l => rw [hk] at hy; exact ⟨l, List.mem_of_getElem? hk, hy⟩
def loadsW (l : List ClA) (ls : List (List Int)) : List (List Int) := (allN ls ls.length).filter (holdC l ls)
def loadsC (l : List ClA) (x : Cs) : List (List Int) := if csRight (l.length : Nat) x then x.ws.flatMap (loadsW l) else []
/-- the loads of the first ways, and of the next one's first -/
def ldN (l : List ClA) (ws : List (List (List Int))) (k m : Nat) : List (List Int) := (ws.take k).flatMap (loadsW l) ++ ((allN (ws.getD k []) (ws.getD k []).length).take m).filter (holdC l (ws.getD k []))
theorem ld_zero (l : List ClA) (ws : List (List (List Int))) : ldN l ws 0 0 = [] := by simp [ldN]
theorem ld_yes {l : List ClA} {ws : List (List (List Int))} {k m : Nat} {u : List (List Int)} {r : List Int} (hu : ws[k]? = some u) (hr : (allN u u.length)[m]? = some r) (h : holdC l u r = true) : ldN l ws k (m + 1) = ldN l ws k m ++ [r] := by
  unfold ldN
  rw [List.getD_eq_getElem?_getD, hu]
  simp only [Option.getD_some]
  rw [List.take_add_one, hr, List.filter_append, ← List.append_assoc]
  simp [h]
theorem ld_no {l : List ClA} {ws : List (List (List Int))} {k m : Nat} {u : List (List Int)} {r : List Int} (hu : ws[k]? = some u) (hr : (allN u u.length)[m]? = some r) (h : holdC l u r = false) : ldN l ws k (m + 1) = ldN l ws k m := by
  unfold ldN
  rw [List.getD_eq_getElem?_getD, hu]
  simp only [Option.getD_some]
  rw [List.take_add_one, hr, List.filter_append]
  simp [h]
theorem ld_way {l : List ClA} {ws : List (List (List Int))} {k : Nat} {u : List (List Int)} (hu : ws[k]? = some u) : ldN l ws k (allN u u.length).length = ldN l ws (k + 1) 0 := by
  unfold ldN
  rw [List.getD_eq_getElem?_getD, hu]
  simp only [Option.getD_some]
  rw [List.take_length, List.take_zero, List.filter_nil, List.append_nil, List.take_add_one, hu, List.flatMap_append]
  simp [loadsW]
theorem ld_end (l : List ClA) (ws : List (List (List Int))) : ldN l ws ws.length 0 = ws.flatMap (loadsW l) := by simp [ldN]
theorem flat_le {α β : Type} (f : α → List β) (b : Nat) : ∀ L : List α, (∀ a ∈ L, (f a).length ≤ b) → (L.flatMap f).length ≤ L.length * b
  | [], _ => by simp
  | a :: L, h => by
    rw [List.flatMap_cons, List.length_append, List.length_cons, Nat.add_mul]
    have h1 := h a List.mem_cons_self
    have h2 := flat_le f b L (fun z hz => h z (List.mem_cons_of_mem _ hz))
    omega
theorem ld_len {l : List ClA} {ws : List (List (List Int))} {k m : Nat} (h4 : ws.length ≤ 4) (h : ∀ ls ∈ ws, (allN ls ls.length).length ≤ 4096) : (ldN l ws k m).length ≤ 20480 := by
  unfold ldN
  rw [List.length_append]
  have h1 := flat_le (loadsW l) 4096 (ws.take k) (fun ls hls => Nat.le_trans (List.length_filter_le _ _) (h ls (List.mem_of_mem_take hls)))
  have h2 : (ws.take k).length * 4096 ≤ 4 * 4096 := Nat.mul_le_mul_right _ (by rw [List.length_take]; omega)
  have h3 := List.length_filter_le (holdC l (ws.getD k [])) ((allN (ws.getD k []) (ws.getD k []).length).take m)
  have h4 : ((allN (ws.getD k []) (ws.getD k []).length).take m).length ≤ 4096 := by
    rw [List.length_take, List.getD_eq_getElem?_getD]
    cases hk : ws[k]? with
    | none => have : (allN ([] : List (List Int)) ([] : List (List Int)).length).length = 1 := rfl
              simp only [Option.getD_none]; omega
    | some u => have := h u (List.mem_of_getElem? hk)
                simp only [Option.getD_some]; omega
  omega
end Go.Proofs.Ytgkplcipplpobaa

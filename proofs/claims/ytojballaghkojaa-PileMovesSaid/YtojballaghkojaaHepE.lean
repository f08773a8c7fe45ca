/- The items' own Len, Push, Pop (layer 7). -/
import Derived.Test.YtojballaghkojaaHepD
import Derived.Deep.RegionLaw
import Derived.WalkSmall
namespace Go.Proofs.Ytojballaghkojaa
open Go.RowKit Go.Shelf
open Pil (It)

theorem step_append_own_at {P : Program} {w : World} {ops : Array Oper} {o : Oper} {a : Act} {K : Act → World → Prop} {Q : Exit → Act → World → Prop} {E : Prop} (hgd : o.guard = none) (s x : Operand) (t : TypeId)
    (ho : o.op = .call { callee := .builtin .append, args := #[s, x], argTypes := #[t, t] })
    (base : Nat) (e : TypeId) (i : TypeInfo) (z : Value) (size bytes : Nat) (ht : P.underlying t = some (.slice e)) (hi : P.info? e = some i) (hz : i.zero = some z)
    (hsize : i.size = size) (hby : i.bytes = bytes) (hzs : z.cells.size = size) (hsz : 0 < size)
    (v : Value) (n : Nat) (xs : List Value) (hs : a.eval s = v) (hown : w.ownsRow base e size v n xs)
    (ad : Addr) (m c : Nat) (news : List Value) (hx : a.eval x = .slice (some ad) m c) (hl : news.length = m * size) (hnews : ∀ j u, news[j]? = some u → w.cell? (ad.add j) = some u) (h1 : ∀ u ∈ news, u.oneCell' = true)
    (h63 : n + m ≤ maxLen) (hbytes : (n + m) * bytes ≤ 140737488355328) (hbase : base ≤ w.heap.size)
    (h : ∀ v' w', w'.ownsRow base e size v' (n + m) (xs ++ news) → w.grownBy w' v.ownBlock → (v'.ownBlock = v.ownBlock ∨ v'.ownBlock = some w.heap.size) → K (a.put o.dst v') w') :
    if Region.wanted o (yielded ops a.tmps) = true then Oper.wp P o a w K Q else E := by
  have hw : Region.wanted o (yielded ops a.tmps) = true := by simp [Region.wanted, hgd]
  rw [if_pos hw]
  obtain ⟨v', w', hr, h2, h3, _, h5⟩ := run_append_own_at (P := P) w base t o.type e i z size bytes ht hi hz hsize hby hzs hsz v n xs hown ad m c news hl hnews h1 h63 hbytes hbase
  unfold Oper.wp
  simp [execOp, ho, resolve, invoke, builtin, hs, hx, hr, Result.andThen]
  exact h v' w' h2 h3 h5

/-- items, whose row may be nil -/
structure Sv (w : World) (q : Nat) (v : Value) (bm : Nat) (l : List It) : Prop where
  hd : w.heap[q]? = some (.cells #[v, .map (some bm)] 54)
  row : w.ownsRow 0 50 2 v l.length (icells l)
  map : IM Try.prog 3 3 w bm l.length (posf l)
  qv : v.ownBlock ≠ some q
  qb : q ≠ bm
  i64 : ∀ x ∈ l, I64 x.1 ∧ I64 x.2
  nd : (Pil.keys l).Nodup
  len : l.length ≤ 20000
theorem St.sv {w : World} {q g c bm : Nat} {l : List It} (h : St w q g c bm l) : Sv w q (.slice (some ⟨g, 0, none⟩) l.length c) bm l :=
  ⟨h.hd, h.row, h.map, fun e => by simp [Value.ownBlock] at e; exact h.pg e.symm, h.pb, h.i64, h.nd, h.len⟩
theorem Sv.form {w : World} {q bm : Nat} {v : Value} {l : List It} (h : Sv w q v bm l) : (l = [] ∧ v = .slice none 0 0) ∨ ∃ g c, v = .slice (some ⟨g, 0, none⟩) l.length c ∧ St w q g c bm l := by
  have hr := h.row
  rcases hr.2 with ⟨h1, h2⟩ | ⟨g, cap, cur, h1, _⟩
  · exact .inl ⟨List.eq_nil_of_length_eq_zero h2, h1⟩
  · have hv : v = .slice (some ⟨g, 0, none⟩) l.length cap := h1
    subst hv
    exact .inr ⟨g, cap, rfl, h.hd, h.row, h.map, fun e => h.qv (by simp [Value.ownBlock, e]), h.qb, h.i64, h.nd, h.len⟩
theorem Sv.st {w : World} {q bm : Nat} {v : Value} {l : List It} (h : Sv w q v bm l) (hl : l ≠ []) : ∃ g c, v = .slice (some ⟨g, 0, none⟩) l.length c ∧ St w q g c bm l := h.form.resolve_left (fun e => hl e.1)
theorem Sv.lt_q {w : World} {q bm : Nat} {v : Value} {l : List It} (h : Sv w q v bm l) : q < w.heap.size := (Array.getElem?_eq_some_iff.1 h.hd).1
theorem Sv.vb {w : World} {q bm : Nat} {v : Value} {l : List It} (h : Sv w q v bm l) : v.ownBlock ≠ some bm := by
  rcases h.form with ⟨_, rfl⟩ | ⟨g, c, rfl, hs⟩
  · simp [Value.ownBlock]
  · simp [Value.ownBlock]; exact hs.gb
theorem posf_none {l : List It} {key : Int} (h : key ∉ Pil.keys l) : posf l key = none := by
  unfold posf
  cases hf : Pil.find l key with
  | none => rfl
  | some k =>
    obtain ⟨r, h1, h2⟩ := Pil.find_some hf
    exact absurd (Pil.mem_keys.2 ⟨r, List.mem_of_getElem? h1⟩) h
theorem nd_push {l : List It} (hn : (Pil.keys l).Nodup) {x : It} (hx : x.1 ∉ Pil.keys l) : (Pil.keys (l ++ [x])).Nodup :=
  Pil.Perm.nd (List.perm_append_singleton x l) (List.nodup_cons.2 ⟨hx, hn⟩)
theorem g_end (l : List It) (x : It) : Hep.g (l ++ [x]) l.length = x := Hep.g_of (by simp)
theorem posf_push {l : List It} (hn : (Pil.keys l).Nodup) {x : It} (hx : x.1 ∉ Pil.keys l) : upd (posf l) x.1 (some (l.length : Int)) = posf (l ++ [x]) := by
  refine posf_ext (nd_push hn hx) fun key z => ?_
  unfold upd
  constructor
  · intro h
    split at h
    · rename_i e
      injection h with h
      exact ⟨l.length, h.symm, by simp, by rw [g_end]; exact e.symm⟩
    · obtain ⟨k, rfl, hk, hg⟩ := (posf_iff hn key z).1 h
      exact ⟨k, rfl, Hep.lt_app _ hk, by rw [Hep.g_app _ hk]; exact hg⟩
  · rintro ⟨k, rfl, hk, hg⟩
    rw [List.length_append] at hk
    simp at hk
    by_cases e : k = l.length
    · subst e
      rw [g_end] at hg
      rw [if_pos hg.symm]
    · have hk2 : k < l.length := by omega
      rw [Hep.g_app _ hk2] at hg
      have hm : key ∈ Pil.keys l := Pil.mem_keys.2 ⟨(Hep.g l k).2, by rw [← hg]; exact List.mem_of_getElem? (Hep.g_eq hk2)⟩
      rw [if_neg (fun e2 => hx (by rw [← e2]; exact hm))]
      exact (posf_iff hn key _).2 ⟨k, rfl, hk2, hg⟩
theorem posf_pop {l : List It} {x : It} (hn : (Pil.keys (l ++ [x])).Nodup) : upd (posf (l ++ [x])) x.1 none = posf l := by
  have h2 : (Pil.keys (x :: l)).Nodup := Pil.Perm.nd (List.perm_append_singleton x l).symm hn
  obtain ⟨h3, h4⟩ := List.nodup_cons.1 h2
  rw [← posf_push h4 h3]
  funext key
  unfold upd
  split
  · rename_i e; subst e; exact (posf_none h3).symm
  · rfl
theorem icells_end (l : List It) (x : It) : icells (l ++ [x]) = icells l ++ [.int .i64 x.1, .int .i64 x.2] := by rw [icells_append]; rfl
/-- the world behind a local item -/
theorem one_new (w : World) (a b : Value) (t : TypeId) : ∃ W, w.alloc (.cells #[a, b] t) = W ∧ W.cell? ⟨w.heap.size, 0, none⟩ = some a ∧ W.cell? ⟨w.heap.size, 1, none⟩ = some b ∧ Below w.heap.size w W ∧ W.heap.size = w.heap.size + 1 := by
  have h1 : ∀ j u, [a, b][j]? = some u → (w.alloc (.cells #[a, b] t)).cell? ((⟨w.heap.size, 0, none⟩ : Addr).add j) = some u := lit_cells w [a, b] t (show 2 ≤ maxLen by unfold maxLen; omega)
  refine ⟨_, rfl, ?_, ?_, below_alloc w _, by simp⟩
  · have := h1 0 a rfl; rwa [Addr.add_lit] at this
  · have := h1 1 b rfl; rwa [Addr.add_lit] at this
end Go.Proofs.Ytojballaghkojaa

/- place, Len, Peek, Rank of a pile: walks (layer 7). -/
import Derived.Test.YtojballaghkojaaPilQ
namespace Go.Proofs.Ytojballaghkojaa
open Go.RowKit Go.Shelf
open Pil (It)

def PcRet (o : Option Int) (w : World) (e : Ending) (w' : World) : Prop := e = .returned (.tuple #[.int .i64 (o.getD 0), .bool o.isSome]) ∧ w' = w
theorem n_place (key : Int) (w : World) : Calls Try.prog 23 #[.pointer none, .int .i64 key] w (PcRet none w) := by
  go_enter Try.func23, Try.ntmps23
  go_wp2_with fail
  go_ret2
  exact ⟨rfl, rfl⟩
theorem e_place {w : World} {p : Nat} (hp : w.heap[p]? = some (.cells #[.pointer none] 48)) (key : Int) : Calls Try.prog 23 #[ptr p, .int .i64 key] w (PcRet none w) := by
  have c0 : w.cell? ⟨p, 0, none⟩ = some (.pointer none) := cell_of hp rfl
  go_enter Try.func23, Try.ntmps23
  go_wp2_with fail
  go_ret2
  exact ⟨rfl, rfl⟩
theorem q_place {w : World} {p q bm : Nat} {v : Value} {l : List It} (h : Pq w p q v bm l) (key : Int) (hk : I64 key) : Calls Try.prog 23 #[ptr p, .int .i64 key] w (PcRet (posf l key) w) := by
  have c0 : w.cell? ⟨p, 0, none⟩ = some (ptr q) := cell_of h.hp rfl
  have c1 : w.cell? ⟨q, 1, none⟩ = some (.map (some bm)) := cell_of h.sv.hd rfl
  have hL := IM.look_ok MT h.sv.map hk
  generalize posf l key = o at *
  clear h
  go_enter Try.func23, Try.ntmps23
  go_wp2_with fail
  go_ret2
  exact ⟨rfl, rfl⟩
def LnEq (n : Nat) (w : World) (e : Ending) (w' : World) : Prop := e = .returned (.int .i64 (n : Int)) ∧ w' = w
theorem nl_Len (w : World) : Calls Try.prog 20 #[.pointer none] w (LnEq 0 w) := by
  go_enter Try.func20, Try.ntmps20
  go_wp2_with fail
  go_ret
  exact ⟨rfl, rfl⟩
theorem e_Len {w : World} {p : Nat} (hp : w.heap[p]? = some (.cells #[.pointer none] 48)) : Calls Try.prog 20 #[ptr p] w (LnEq 0 w) := by
  have c0 : w.cell? ⟨p, 0, none⟩ = some (.pointer none) := cell_of hp rfl
  go_enter Try.func20, Try.ntmps20
  go_wp2_with fail
  go_ret
  exact ⟨rfl, rfl⟩
theorem q_Len {w : World} {p q bm : Nat} {v : Value} {l : List It} (h : Pq w p q v bm l) : Calls Try.prog 20 #[ptr p] w (LnEq l.length w) := by
  have c0 : w.cell? ⟨p, 0, none⟩ = some (ptr q) := cell_of h.hp rfl
  have C := hid (i_Len h.sv)
  clear h
  go_enter Try.func20, Try.ntmps20
  go_wp2_with fail
  with_reducible refine (C.out).mono ?_
  rintro e w2 ⟨rfl, rfl⟩
  go_wp2_with fail
  go_ret
  exact ⟨rfl, rfl⟩
/-- what stands on top, as it is told -/
def topV : List It → Value
  | [] => .tuple #[.int .i64 0, .int .i64 0, .bool false]
  | x :: _ => .tuple #[.int .i64 x.1, .int .i64 x.2, .bool true]
def TpRet (s : List It) (w : World) (e : Ending) (w' : World) : Prop := e = .returned (topV s) ∧ Below w.heap.size w w'
theorem len_c {w : World} {p : Value} {n : Nat} (h : Calls Try.prog 20 #[p] w (LnEq n w)) {z : Int} (hz : (n : Int) = z) : Calls Try.prog 20 #[p] w fun e w' => e = .returned (.int .i64 z) ∧ w' = w := by subst hz; exact h
theorem nn_Peek (w : World) : Calls Try.prog 22 #[.pointer none] w (TpRet [] w) := by
  have C := hid (len_c (nl_Len w) (z := 0) rfl)
  go_enter Try.func22, Try.ntmps22
  go_wp2_with fail
  with_reducible refine (C.out).mono ?_
  rintro e w2 ⟨rfl, rfl⟩
  go_wp2_with fail
  go_ret3
  exact ⟨rfl, Below.refl _ _⟩
theorem e_Peek {w : World} {p : Nat} (hp : w.heap[p]? = some (.cells #[.pointer none] 48)) : Calls Try.prog 22 #[ptr p] w (TpRet [] w) := by
  have C := hid (len_c (e_Len hp) (z := 0) rfl)
  clear hp
  go_enter Try.func22, Try.ntmps22
  go_wp2_with fail
  with_reducible refine (C.out).mono ?_
  rintro e w2 ⟨rfl, rfl⟩
  go_wp2_with fail
  go_ret3
  exact ⟨rfl, Below.refl _ _⟩
theorem q0_Peek {w : World} {p q bm : Nat} {v : Value} (h : Pq w p q v bm []) : Calls Try.prog 22 #[ptr p] w (TpRet [] w) := by
  have C := hid (len_c (q_Len h) (z := 0) rfl)
  clear h
  go_enter Try.func22, Try.ntmps22
  go_wp2_with fail
  with_reducible refine (C.out).mono ?_
  rintro e w2 ⟨rfl, rfl⟩
  go_wp2_with fail
  go_ret3
  exact ⟨rfl, Below.refl _ _⟩
set_option maxRecDepth 20000 in
set_option maxHeartbeats 4000000 in
theorem q_Peek {w : World} {p q bm : Nat} {v : Value} {l : List It} (h : Pq w p q v bm l) (hl : 0 < l.length) (r : List It) : Calls Try.prog 22 #[ptr p] w (TpRet (Hep.g l 0 :: r) w) := by
  have C := hid (q_Len h)
  obtain ⟨g, c, rfl, st⟩ := h.sv.st (List.length_pos_iff.1 hl)
  obtain ⟨x0, x1⟩ := st.at_ hl
  have c0 : w.cell? ⟨p, 0, none⟩ = some (ptr q) := cell_of h.hp rfl
  have c1 := st.cells.1
  have hne : ((l.length : Int) == 0) = false := by rw [beq_eq_false_iff_ne]; omega
  have i1 : (0 : Int) < (l.length : Int) := by omega
  rw [Nat.zero_mul] at x0 x1
  obtain ⟨n, hn⟩ : ∃ n, l.length = n := ⟨_, rfl⟩
  unfold LnEq at C
  rw [hn] at C c1 hne i1
  have i2 : 0 < n := by omega
  generalize Hep.g l 0 = x at *
  obtain ⟨xk, xr⟩ := x
  obtain ⟨W1, hW1, d0, d1, hb1, hs1⟩ := one_new w (.int .i64 xk) (.int .i64 xr) 50
  have HB := hid hb1
  clear h st hn hl
  go_enter Try.func22, Try.ntmps22
  go_wp2_with fail
  with_reducible refine (C.out).mono ?_
  rintro e w2 ⟨rfl, rfl⟩
  go_wp2_with fail
  clear hW1 hb1
  go_region
  go_wp2_with fail
  go_ret3
  exact ⟨rfl, HB.out.drew⟩
def RkRet (o : Option Int) (w : World) (e : Ending) (w' : World) : Prop := e = .returned (.tuple #[.int .i64 (o.getD 0), .bool o.isSome]) ∧ Below w.heap.size w w'
/-- no such key: nothing is told -/
theorem no_Rank {w : World} {pv : Value} {key : Int} (C : Hid (Calls Try.prog 23 #[pv, .int .i64 key] w (PcRet none w))) : Calls Try.prog 11 #[pv, .int .i64 key] w (RkRet none w) := by
  have C : Hid (Calls Try.prog 23 #[pv, .int .i64 key] w fun e w' => e = .returned (.tuple #[.int .i64 0, .bool false]) ∧ w' = w) := C
  go_enter Try.func11, Try.ntmps11
  go_wp2_with fail
  with_reducible refine (C.out).mono ?_
  rintro e w2 ⟨rfl, rfl⟩
  go_wp2_with fail
  go_ret2
  exact ⟨rfl, Below.refl _ _⟩
set_option maxRecDepth 20000 in
set_option maxHeartbeats 4000000 in
theorem q_Rank {w : World} {p q bm : Nat} {v : Value} {l : List It} (h : Pq w p q v bm l) {key : Int} (hk : I64 key) {i : Nat} (hi : i < l.length) (hf : posf l key = some (i : Int)) : Calls Try.prog 11 #[ptr p, .int .i64 key] w (RkRet (some (Hep.g l i).2) w) := by
  have C := hid (q_place h key hk)
  rw [hf] at C
  unfold PcRet at C
  rw [show (some (i : Int)).getD 0 = (i : Int) from rfl, show (some (i : Int)).isSome = true from rfl] at C
  obtain ⟨g, c, rfl, st⟩ := h.sv.st (List.length_pos_iff.1 (Nat.lt_of_le_of_lt (Nat.zero_le _) hi))
  obtain ⟨x0, x1⟩ := st.at_ hi
  have c0 : w.cell? ⟨p, 0, none⟩ = some (ptr q) := cell_of h.hp rfl
  have c1 := st.cells.1
  have i1 : (0 : Int) ≤ (i : Int) := by omega
  have i2 : (i : Int) < (l.length : Int) := by omega
  generalize l.length = n at *
  generalize Hep.g l i = x at *
  obtain ⟨xk, xr⟩ := x
  simp only at x0 x1
  clear h st hf
  go_enter Try.func11, Try.ntmps11
  go_wp2_with fail
  with_reducible refine (C.out).mono ?_
  rintro e w2 ⟨rfl, rfl⟩
  go_wp2_with fail
  go_ret2
  exact ⟨rfl, Below.refl _ _⟩
end Go.Proofs.Ytojballaghkojaa

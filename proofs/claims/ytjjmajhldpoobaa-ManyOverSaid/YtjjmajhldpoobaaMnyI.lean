/- What ManyJoins says of the blocks of a day, and how it is counted (layer 16). -/
import Derived.Test.YtjjmajhldpoobaaMnyH
import Derived.Test.YtjjmajhldpoobaaWh2
namespace Go.Proofs.Ytjjmajhldpoobaa.Whn
theorem sm_take {f : Int × Int → Int} {l : List (Int × Int)} {k : Nat} {p : Int × Int} (h : l[k]? = some p) : sm f (l.take (k + 1)) = sm f (l.take k) + f p := by
  have key : ∀ (x : List (Int × Int)), sm f (x ++ [p]) = sm f x + f p := by
    intro x
    induction x with
    | nil => show f p + 0 = 0 + f p; omega
    | cons y x ih => rw [List.cons_append, sm, sm, ih]; omega
  rw [List.take_add_one, h]
  exact key _
theorem bgo_bnd (gap : Int) : ∀ (ws : List (Int × Int)) (f e c : Int), 0 ≤ f → e ≤ 96 → f ≤ e → 0 ≤ c → (∀ w ∈ ws, 0 ≤ w.1 ∧ 1 ≤ w.2 ∧ w.1 + w.2 ≤ 96) → ∀ b ∈ bgo gap f e c ws, 0 ≤ b.1 ∧ b.1 ≤ 96 ∧ 0 ≤ b.2 ∧ b.2 ≤ c + ws.length := by
  intro ws
  induction ws with
  | nil =>
    intro f e c h1 h2 h3 h4 _ b hb
    rw [bgo, List.mem_singleton] at hb
    subst hb
    show 0 ≤ e - f ∧ e - f ≤ 96 ∧ 0 ≤ c ∧ c ≤ c + ((0 : Nat) : Int)
    omega
  | cons w ws ih =>
    intro f e c h1 h2 h3 h4 hw b hb
    have h0 := hw w (List.mem_cons_self ..)
    have hws : ∀ w ∈ ws, 0 ≤ w.1 ∧ 1 ≤ w.2 ∧ w.1 + w.2 ≤ 96 := fun w h => hw w (List.mem_cons_of_mem _ h)
    rw [List.length_cons]
    rw [bgo] at hb
    split at hb
    · rcases List.mem_cons.1 hb with rfl | hb
      · show 0 ≤ e - f ∧ e - f ≤ 96 ∧ 0 ≤ c ∧ c ≤ c + ((ws.length + 1 : Nat) : Int)
        omega
      · have := ih w.1 (w.1 + w.2) 1 (by omega) (by omega) (by omega) (by omega) hws b hb
        omega
    · have := ih f (max e (w.1 + w.2)) (c + 1) h1 (by omega) (by omega) (by omega) hws b hb
      omega
theorem blkN_bnd (gap : Int) (g : Gr) (l : List Wh) (D : Nat) : ∀ b ∈ blkN gap g l D, 0 ≤ b.1 ∧ b.1 ≤ 96 ∧ 0 ≤ b.2 ∧ b.2 ≤ l.length := by
  intro b hb
  unfold blkN at hb
  have hd : ∀ w ∈ srtP (dayP g l D), 0 ≤ w.1 ∧ 1 ≤ w.2 ∧ w.1 + w.2 ≤ 96 := fun w hw => by have := dayP_bnd hw; omega
  have hlen : (srtP (dayP g l D)).length ≤ l.length := by rw [srtP_len, dayP_len]; exact dayW_len g l D
  revert hd hlen hb
  generalize srtP (dayP g l D) = ws
  intro hb hd hlen
  cases ws with
  | nil => cases hb
  | cons w ws =>
    have h0 := hd w (List.mem_cons_self ..)
    have := bgo_bnd _ ws w.1 (w.1 + w.2) 1 (by omega) (by omega) (by omega) (by omega) (fun w h => hd w (List.mem_cons_of_mem _ h)) b hb
    rw [List.length_cons] at hlen
    omega
theorem sm_bnd {f : Int × Int → Int} {M : Int} {l : List (Int × Int)} (h : ∀ b ∈ l, 0 ≤ f b ∧ f b ≤ M) (k : Nat) : 0 ≤ sm f (l.take k) ∧ sm f (l.take k) ≤ (l.length : Int) * M := by
  induction l generalizing k with
  | nil => rw [List.take_nil]; show (0 : Int) ≤ 0 ∧ (0 : Int) ≤ ((0 : Nat) : Int) * M; omega
  | cons b l ih =>
    have h0 := h b (List.mem_cons_self ..)
    have hl := fun k => ih (fun b hb => h b (List.mem_cons_of_mem _ hb)) k
    have e : ((b :: l).length : Int) * M = (l.length : Int) * M + M := by rw [List.length_cons, Int.natCast_add, Int.add_mul]; omega
    rw [e]
    cases k with
    | zero => have := hl 0; rw [List.take_zero]; show 0 ≤ (0 : Int) ∧ (0 : Int) ≤ _; have h2 := this.1; have h3 := this.2; omega
    | succ k => have := hl k; rw [List.take_succ_cons, sm]; omega
theorem dayW_take (g : Gr) {l : List Wh} {k : Nat} {x : Wh} (h : l[k]? = some x) (D : Nat) : ((dayW g (l.take (k + 1)) D).length : Int) = ((dayW g (l.take k) D).length : Int) + (if (right g x && dayOn g x D) = true then 1 else 0) := by
  rw [List.take_add_one, h, dayW_append, List.length_append]
  show (((dayW g (l.take k) D).length + (List.filter (fun x => right g x && dayOn g x D) [x]).length : Nat) : Int) = _
  rw [List.filter_cons, List.filter_nil]
  split <;> simp_all
end Go.Proofs.Ytjjmajhldpoobaa.Whn
namespace Go.Proofs.Ytjjmajhldpoobaa
open Go.RowKit
open Whn (Gr Wh)
theorem whole_ok {g : Gr} {D : Nat} (hD : D < Whn.daysN g) : Wok (Whn.whole g D) := by
  obtain ⟨hg, _, _⟩ := Whn.daysN_slots hD
  obtain ⟨q1, q2, q3, q4, q5, q6⟩ := (Whn.rgrid_iff g).1 hg
  have h1 : D / g.d.toNat < 20 := by
    rw [Nat.div_lt_iff_lt_mul (by omega)]
    unfold Whn.daysN at hD
    rw [if_pos hg] at hD
    have e : (g.w * g.d).toNat = g.w.toNat * g.d.toNat := by rw [Int.toNat_mul (by omega) (by omega)]
    rw [e] at hD
    exact Nat.lt_of_lt_of_le hD (Nat.mul_le_mul_right _ (by omega))
  have h2 : D % g.d.toNat < 7 := Nat.lt_of_lt_of_le (Nat.mod_lt _ (by omega)) (by omega)
  refine ⟨Nat.lt_of_lt_of_le (Nat.pow_lt_pow_right (by decide) h1) (by decide), Nat.lt_of_lt_of_le (Nat.pow_lt_pow_right (by decide) h2) (by decide), ?_, ?_⟩
  · show I64 (0 : Int); unfold I64; omega
  · show I64 (96 : Int); unfold I64; omega
end Go.Proofs.Ytjjmajhldpoobaa

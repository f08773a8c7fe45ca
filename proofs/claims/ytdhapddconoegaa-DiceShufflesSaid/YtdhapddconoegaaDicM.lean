/- Mathematics of layer 8 (dice): throws, weights, shuffled rows. Nothing of a program is spoken of here. -/
import Derived.Test.YtdhapddconoegaaSumM
namespace Go.Proofs.Ytdhapddconoegaa.Dic

def G : Nat := 11400714819323198485
/-- the state behind one throw; behind so many (by choice, so that the kernel does not reckon with them) -/
theorem nx_is : ∃ f : Nat → Nat, ∀ s, f s = (s + G) % Sum.M := ⟨fun s => (s + G) % Sum.M, fun _ => rfl⟩
noncomputable def nx : Nat → Nat := Classical.choose nx_is
theorem nx_eq (s : Nat) : nx s = (s + G) % Sum.M := Classical.choose_spec nx_is s
theorem skn_is : ∃ f : Nat → Nat → Nat, ∀ s n, f s n = (s + n * G) % Sum.M := ⟨fun s n => (s + n * G) % Sum.M, fun _ _ => rfl⟩
noncomputable def skn : Nat → Nat → Nat := Classical.choose skn_is
theorem skn_eq (s n : Nat) : skn s n = (s + n * G) % Sum.M := Classical.choose_spec skn_is s n
noncomputable def skip (s : Nat) (n : Int) : Nat := if n < 0 then s else skn s n.toNat
/-- the number of a throw -/
theorem num_is : ∃ f : Nat → Nat, ∀ s, f s = Sum.mix (nx s) := ⟨fun s => Sum.mix (nx s), fun _ => rfl⟩
noncomputable def num : Nat → Nat := Classical.choose num_is
theorem num_eq (s : Nat) : num s = Sum.mix (nx s) := Classical.choose_spec num_is s
theorem nx_lt (s : Nat) : nx s < Sum.M := by rw [nx_eq]; exact Nat.mod_lt _ Sum.M_pos
theorem num_lt (s : Nat) : num s < Sum.M := by rw [num_eq]; exact Sum.mix_lt _
theorem skn_zero (s : Nat) (h : s < Sum.M) : skn s 0 = s := by
  rw [skn_eq, Nat.zero_mul, Nat.add_zero]
  exact Nat.mod_eq_of_lt h
theorem skn_one (s : Nat) : skn s 1 = nx s := by
  rw [skn_eq, nx_eq, Nat.one_mul]
theorem skip_one (s : Nat) : skip s 1 = nx s := by
  unfold skip
  rw [if_neg (by decide)]
  exact skn_one s
theorem nx_skn (s k : Nat) : nx (skn s k) = skn s (k + 1) := by
  rw [nx_eq, skn_eq, skn_eq, Nat.mod_add_mod, Nat.add_mul, Nat.one_mul, Nat.add_assoc]
theorem skn_lt (s k : Nat) : skn s k < Sum.M := by rw [skn_eq]; exact Nat.mod_lt _ Sum.M_pos
theorem skn_ne (s k : Nat) (h0 : 0 < k) (hk : k < 1000) : skn s k ≠ s := by
  intro h
  rw [skn_eq] at h
  have h1 : s + k * G = Sum.M * ((s + k * G) / Sum.M) + s := by
    have := Nat.div_add_mod (s + k * G) Sum.M
    omega
  generalize (s + k * G) / Sum.M = q at h1
  clear h
  have h2 : k * G = Sum.M * q := by omega
  have h3 : Sum.M ∣ k * G := ⟨q, h2⟩
  have h4 : Sum.M ∣ k := (show Nat.Coprime Sum.M G by decide +kernel).dvd_of_dvd_mul_right h3
  have h5 := Nat.le_of_dvd h0 h4
  unfold Sum.M at h5
  omega
theorem nx_ne (s : Nat) : nx s ≠ s := by
  rw [← skn_one]
  exact skn_ne s 1 (by decide) (by decide)

noncomputable def bel (s : Nat) (n : Int) : Nat := if n < 1 then 0 else num s % n.toNat
noncomputable def belS (s : Nat) (n : Int) : Nat := if n < 1 then s else nx s

/-! ### weights -/
def wt (x : Int) : Nat := (min (max x 0) 1000000).toNat
theorem wt_le (x : Int) : wt x ≤ 1000000 := by unfold wt; omega
theorem wt_pos (x : Int) : 0 < wt x ↔ 0 < x := by unfold wt; omega
def tot (l : List Int) : Nat := (l.map wt).foldr (· + ·) 0
theorem tot_nil : tot [] = 0 := rfl
theorem tot_cons (x : Int) (l : List Int) : tot (x :: l) = wt x + tot l := rfl
theorem tot_append (a b : List Int) : tot (a ++ b) = tot a + tot b := by
  induction a with
  | nil => rw [List.nil_append, tot_nil, Nat.zero_add]
  | cons x a ih => rw [List.cons_append, tot_cons, tot_cons, ih, Nat.add_assoc]
theorem tot_take (l : List Int) (k : Nat) (x : Int) (h : l[k]? = some x) : tot (l.take (k + 1)) = tot (l.take k) + wt x := by
  rw [List.take_add_one, h, tot_append]
  rfl
theorem tot_le (l : List Int) : tot l ≤ l.length * 1000000 := by
  induction l with
  | nil => exact Nat.le_refl _
  | cons x l ih =>
    have := wt_le x
    rw [tot_cons, List.length_cons, Nat.add_mul]
    omega
theorem tot_take_le (l : List Int) (k : Nat) : tot (l.take k) ≤ k * 1000000 := by
  refine Nat.le_trans (tot_le _) (Nat.mul_le_mul_right _ ?_)
  rw [List.length_take]
  exact Nat.min_le_left _ _
theorem tot_zero (l : List Int) : tot l = 0 ↔ ∀ x ∈ l, ¬ 0 < x := by
  induction l with
  | nil => exact ⟨fun _ _ h => (by cases h), fun _ => rfl⟩
  | cons x l ih =>
    have := wt_pos x
    rw [tot_cons, List.forall_mem_cons, ← ih]
    omega
/-- the least place whose weight and those ahead are together above r -/
def pk : List Int → Nat → Nat
  | [], _ => 0
  | x :: l, r => if r < wt x then 0 else pk l (r - wt x) + 1
theorem pk_lt (l : List Int) (r : Nat) (h : r < tot l) : pk l r < l.length := by
  induction l generalizing r with
  | nil => exact absurd h (Nat.not_lt_zero _)
  | cons x l ih =>
    rw [tot_cons] at h
    rw [pk, List.length_cons]
    split
    · exact Nat.zero_lt_succ _
    · exact Nat.succ_lt_succ (ih _ (by omega))
theorem pk_spec (l : List Int) (r : Nat) (h : r < tot l) : tot (l.take (pk l r)) ≤ r ∧ r < tot (l.take (pk l r + 1)) := by
  induction l generalizing r with
  | nil => exact absurd h (Nat.not_lt_zero _)
  | cons x l ih =>
    rw [tot_cons] at h
    rw [pk]
    split
    · rename_i hx
      rw [List.take_zero, Nat.zero_add, List.take_succ_cons, List.take_zero, tot_cons, tot_nil]
      exact ⟨Nat.zero_le _, by omega⟩
    · rename_i hx
      obtain ⟨h1, h2⟩ := ih (r - wt x) (by omega)
      rw [List.take_succ_cons, List.take_succ_cons, tot_cons, tot_cons]
      exact ⟨by omega, by omega⟩
theorem tot_take_mono (l : List Int) {a b : Nat} (h : a ≤ b) : tot (l.take a) ≤ tot (l.take b) := by
  have e : l.take b = l.take a ++ (l.drop a).take (b - a) := by
    rw [← List.take_add, Nat.add_sub_cancel' h]
  rw [e, tot_append]
  exact Nat.le_add_right _ _
theorem pk_is (l : List Int) (r k : Nat) (h : r < tot l) (h1 : tot (l.take k) ≤ r) (h2 : r < tot (l.take (k + 1))) : pk l r = k := by
  obtain ⟨h3, h4⟩ := pk_spec l r h
  rcases Nat.lt_trichotomy (pk l r) k with hk | hk | hk
  · have := tot_take_mono l (show pk l r + 1 ≤ k from hk)
    omega
  · exact hk
  · have := tot_take_mono l (show k + 1 ≤ pk l r from hk)
    omega
theorem pk_pos (l : List Int) (r : Nat) (h : r < tot l) (x : Int) (hx : l[pk l r]? = some x) : 0 < x := by
  obtain ⟨h3, h4⟩ := pk_spec l r h
  rw [tot_take l _ x hx] at h4
  exact (wt_pos x).1 (by omega)
def ok (l : List Int) : Prop := l.length ≤ 10000 ∧ tot l ≠ 0
instance (l : List Int) : Decidable (ok l) := inferInstanceAs (Decidable (_ ∧ _))
noncomputable def pick (s : Nat) (l : List Int) : Int := if ok l then (pk l (num s % tot l) : Nat) else -1
noncomputable def pickS (s : Nat) (l : List Int) : Nat := if ok l then nx s else s

def pos (l : List Int) : Bool := l.any fun x => decide (0 < x)
theorem pos_take (l : List Int) (k : Nat) (x : Int) (h : l[k]? = some x) : pos (l.take (k + 1)) = (pos (l.take k) || decide (0 < x)) := by
  unfold pos
  rw [List.take_add_one, h, List.any_append]
  simp
theorem pos_tot (l : List Int) : pos l = true ↔ tot l ≠ 0 := by
  unfold pos
  rw [List.any_eq_true, Ne, tot_zero]
  constructor
  · rintro ⟨x, hx, h⟩ h0
    exact h0 x hx (of_decide_eq_true h)
  · intro h
    apply Classical.byContradiction
    intro hn
    exact h fun x hx hp => hn ⟨x, hx, decide_eq_true hp⟩
theorem pick_none (s : Nat) (l : List Int) (h : pos l = false) : pick s l = -1 := by
  unfold pick
  rw [if_neg]
  intro hk
  have := (pos_tot l).2 hk.2
  rw [h] at this
  cases this
theorem pick_some (s : Nat) (l : List Int) (hl : l.length ≤ 10000) (h : pos l = true) : ∃ (m : Nat) (x : Int), pick s l = (m : Int) ∧ m < l.length ∧ l[m]? = some x ∧ 0 < x := by
  have h0 := (pos_tot l).1 h
  have hr := Nat.mod_lt (num s) (Nat.pos_of_ne_zero h0)
  have hm := pk_lt l _ hr
  refine ⟨_, l[pk l (num s % tot l)], by unfold pick; rw [if_pos ⟨hl, h0⟩], hm, List.getElem?_eq_getElem hm, ?_⟩
  exact pk_pos l _ hr _ (List.getElem?_eq_getElem hm)

/-! ### shuffled rows -/
def rng (n : Nat) : List Int := (List.range n).map fun (i : Nat) => (i : Int)
theorem rng_len (n : Nat) : (rng n).length = n := by unfold rng; rw [List.length_map, List.length_range]
theorem rng_get (n k : Nat) (h : k < n) : (rng n)[k]? = some (k : Int) := by
  unfold rng
  rw [List.getElem?_map, List.getElem?_range h]
  rfl
/-- a row that is being filled -/
def fil (n k : Nat) : List Int := rng k ++ List.replicate (n - k) 0
theorem fil_len (n k : Nat) (h : k ≤ n) : (fil n k).length = n := by
  unfold fil
  rw [List.length_append, rng_len, List.length_replicate]
  omega
theorem fil_zero (n : Nat) : fil n 0 = List.replicate n 0 := rfl
theorem fil_full (n : Nat) : fil n n = rng n := by
  unfold fil
  rw [Nat.sub_self, List.replicate_zero, List.append_nil]
theorem rng_succ (n : Nat) : rng (n + 1) = rng n ++ [(n : Int)] := by
  unfold rng
  rw [List.range_succ, List.map_append]
  rfl
theorem fil_next (n k : Nat) (h : k < n) : (fil n k).set k (k : Int) = fil n (k + 1) := by
  unfold fil
  rw [List.set_append_right _ _ (by rw [rng_len]; exact Nat.le_refl _), rng_len, Nat.sub_self, show n - k = (n - (k + 1)) + 1 by omega, List.replicate_succ, List.set_cons_zero, rng_succ, List.append_assoc]
  rfl
def swp (l : List Int) (i k : Nat) : List Int := (l.set i (l.getD k 0)).set k (l.getD i 0)
theorem swp_len (l : List Int) (i k : Nat) : (swp l i k).length = l.length := by unfold swp; rw [List.length_set, List.length_set]
/-- i rounds are left -/
noncomputable def shf : Nat → Nat → List Int → List Int
  | 0, _, l => l
  | i + 1, s, l => shf i (nx s) (swp l (i + 1) (num s % (i + 2)))
noncomputable def shfS : Nat → Nat → Nat
  | 0, s => s
  | i + 1, s => shfS i (nx s)
theorem shf_step (m s : Nat) (l : List Int) (h : 1 ≤ m) : shf m s l = shf (m - 1) (nx s) (swp l m (num s % (m + 1))) := by
  obtain ⟨i, rfl⟩ : ∃ i, m = i + 1 := ⟨m - 1, by omega⟩
  rw [Nat.add_sub_cancel, shf]
theorem shfS_step (m s : Nat) (h : 1 ≤ m) : shfS m s = shfS (m - 1) (nx s) := by
  obtain ⟨i, rfl⟩ : ∃ i, m = i + 1 := ⟨m - 1, by omega⟩
  rw [Nat.add_sub_cancel, shfS]
theorem shf_len (i s : Nat) (l : List Int) : (shf i s l).length = l.length := by
  induction i generalizing s l with
  | zero => rfl
  | succ i ih => rw [shf, ih, swp_len]
/-- a row whose numbers are each once those below its length -/
def Each (l : List Int) : Prop := (∀ x ∈ l, 0 ≤ x ∧ x < l.length) ∧ ∀ i j : Nat, i < l.length → j < l.length → l.getD i 0 = l.getD j 0 → i = j
theorem swp_get (l : List Int) (i k j : Nat) (hi : i < l.length) (hk : k < l.length) (hj : j < l.length) : (swp l i k).getD j 0 = l.getD (if j = k then i else if j = i then k else j) 0 := by
  unfold swp
  rw [List.getD_eq_getElem?_getD, List.getElem?_set, List.getElem?_set]
  by_cases h1 : k = j
  · subst h1
    simp [hk]
  · rw [if_neg h1, if_neg (fun (h : j = k) => h1 h.symm)]
    by_cases h2 : i = j
    · subst h2
      simp [hi]
    · rw [if_neg h2, if_neg (fun (h : j = i) => h2 h.symm), List.getD_eq_getElem?_getD]
theorem Each.swp {l : List Int} (h : Each l) (i k : Nat) (hi : i < l.length) (hk : k < l.length) : Each (swp l i k) := by
  have hl := swp_len l i k
  refine ⟨fun x hx => ?_, fun a b ha hb hab => ?_⟩
  · rw [hl]
    obtain ⟨j, hj, rfl⟩ := List.mem_iff_getElem.1 hx
    have hg := swp_get l i k j hi hk (by omega)
    rw [List.getD_eq_getElem?_getD, List.getElem?_eq_getElem hj] at hg
    have hg2 : (Dic.swp l i k)[j] = l.getD (if j = k then i else if j = i then k else j) 0 := hg
    rw [hg2]
    have hm : (if j = k then i else if j = i then k else j) < l.length := by split; exact hi; split; exact hk; omega
    generalize (if j = k then i else if j = i then k else j) = m at hm
    rw [List.getD_eq_getElem?_getD, List.getElem?_eq_getElem hm]
    exact h.1 _ (List.getElem_mem hm)
  · rw [hl] at ha hb
    rw [swp_get l i k a hi hk ha, swp_get l i k b hi hk hb] at hab
    have hm : ∀ j, j < l.length → (if j = k then i else if j = i then k else j) < l.length := fun j hj => by split; exact hi; split; exact hk; exact hj
    have := h.2 _ _ (hm a ha) (hm b hb) hab
    split at this <;> split at this <;> (try split at this) <;> (try split at this) <;> omega
theorem Each.shf {l : List Int} (h : Each l) (i s : Nat) (hi : i < l.length ∨ i = 0) : Each (shf i s l) := by
  induction i generalizing s l with
  | zero => exact h
  | succ i ih =>
    rw [Dic.shf]
    have hk : num s % (i + 2) < i + 2 := Nat.mod_lt _ (by omega)
    refine ih (h.swp (i + 1) _ (by omega) (by omega)) _ (.inl ?_)
    rw [swp_len]
    omega
theorem Each.rng (n : Nat) : Each (rng n) := by
  have hl := rng_len n
  refine ⟨fun x hx => ?_, fun a b ha hb hab => ?_⟩
  · rw [hl]
    unfold Dic.rng at hx
    obtain ⟨j, hj, rfl⟩ := List.mem_map.1 hx
    have := List.mem_range.1 hj
    omega
  · rw [hl] at ha hb
    rw [List.getD_eq_getElem?_getD, List.getD_eq_getElem?_getD, rng_get n a ha, rng_get n b hb] at hab
    have : (a : Int) = (b : Int) := hab
    omega
noncomputable def shuf (s : Nat) (n : Int) : List Int := if n < 0 ∨ 10000 < n then [] else shf (n.toNat - 1) s (rng n.toNat)
noncomputable def shufS (s : Nat) (n : Int) : Nat := if n < 0 ∨ 10000 < n then s else shfS (n.toNat - 1) s
theorem shuf_each (s : Nat) (n : Int) : Each (shuf s n) := by
  unfold shuf
  split
  · exact Each.rng 0
  · refine (Each.rng _).shf _ _ ?_
    rw [rng_len]
    omega
theorem shuf_len (s : Nat) (n : Int) : (shuf s n).length ≤ 10000 := by
  unfold shuf
  split
  · exact Nat.zero_le _
  · rw [shf_len, rng_len]
    omega
theorem shuf_few (s : Nat) (n : Int) (h : ¬ (300 < n ∧ n ≤ 10000)) : (shuf s n).length ≤ 300 := by
  unfold shuf
  split
  · exact Nat.zero_le _
  · rw [shf_len, rng_len]
    omega
end Go.Proofs.Ytdhapddconoegaa.Dic

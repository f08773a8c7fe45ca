/- Small general lemmas for walks: results of each kind, a slice of bytes that is turned into a text, and what stays below a number of blocks. No program is spoken of here. -/
import Derived.WalkKit
import Derived.WalkSpells
import Derived.WalkLawsBesides
import Derived.Laws.OwnMore
namespace Go.Proofs.YtgmgccepmalahaaGreat
open Go.RowKit

theorem ret_k {k : IntKind} {a b : Int} (h : a = b) : Ending.returned (.int k a) = .returned (.int k b) := by rw [h]
theorem ret_b {a b : Bool} (h : a = b) : Ending.returned (.bool a) = .returned (.bool b) := by rw [h]
theorem ret_s {a b : ByteArray} (h : a = b) : Ending.returned (.string a) = .returned (.string b) := by rw [h]
theorem ret_2 {a b c d : Value} (h : a = c) (k : b = d) : Ending.returned (.tuple #[a, b]) = .returned (.tuple #[c, d]) := by rw [h, k]
theorem int_k {k : IntKind} {a b : Int} (h : a = b) : Value.int k a = .int k b := by rw [h]

theorem made_one (k : IntKind) (z : Int) (n : Nat) : (madeCells (Value.int k z).cells (n * 1)).toList = List.replicate n (.int k z) := by
  rw [Nat.mul_one]; exact toList_madeCells_one _ _
/-- a fact behind a name: a walk does not rewrite by it -/
theorem hid {p : Prop} (h : p) : Hid p := h
/-! ### what stays, call behind call -/
theorem below2 {w a b : World} (h1 : Below w.heap.size w a) (h2 : Below a.heap.size a b) : Below w.heap.size w b := h1.trans (h2.mono h1.size)
theorem below3 {w a b c : World} (h1 : Below w.heap.size w a) (h2 : Below a.heap.size a b) (h3 : Below b.heap.size b c) : Below w.heap.size w c := below2 (below2 h1 h2) h3
theorem below4 {w a b c d : World} (h1 : Below w.heap.size w a) (h2 : Below a.heap.size a b) (h3 : Below b.heap.size b c) (h4 : Below c.heap.size c d) : Below w.heap.size w d := below2 (below3 h1 h2 h3) h4
theorem below5 {w a b c d e : World} (h1 : Below w.heap.size w a) (h2 : Below a.heap.size a b) (h3 : Below b.heap.size b c) (h4 : Below c.heap.size c d) (h5 : Below d.heap.size d e) : Below w.heap.size w e := below2 (below4 h1 h2 h3 h4) h5
theorem below_drewN {B : Nat} {a w : World} (h : Below B a w) (n : Nat) : Below B a (w.drewN n) := ⟨h.os, h.tape, h.output, h.size, h.block⟩
theorem own_drewN {w : World} {base : Nat} {e : TypeId} {size : Nat} {v : Value} {n : Nat} {xs : List Value} (h : w.ownsRow base e size v n xs) (k : Nat) : (w.drewN k).ownsRow base e size v n xs := h
/-- a row of the call's own behind a call that leaves what there was -/
theorem own_below {w w' : World} {base : Nat} {e : TypeId} {size : Nat} {v : Value} {n : Nat} {xs : List Value} (h : w.ownsRow base e size v n xs) (hb : Below w.heap.size w w') : w'.ownsRow base e size v n xs := by
  have hlt := h.lt
  refine ⟨h.1, ?_⟩
  rcases h.2 with h0 | ⟨g, cap, cur, hv, hg, hh, hr⟩
  · exact .inl h0
  · subst hv
    exact .inr ⟨g, cap, cur, rfl, hg, (hb.block g (hlt g rfl).2).trans hh, hr⟩
theorem le_alloc {b : Nat} {w : World} (h : b ≤ w.heap.size) (o : Obj) : b ≤ (w.alloc o).heap.size := Nat.le_trans h ((Below.refl w.heap.size w).alloc (Nat.le_refl _) o).size
/-- the cells of a literal that was just made -/
theorem lit_cells (w : World) (xs : List Value) (t : TypeId) (hm : xs.length ≤ maxLen) : ∀ j u, xs[j]? = some u → (w.alloc (.cells xs.toArray t)).cell? ((⟨w.heap.size, 0, none⟩ : Addr).add j) = some u := by
  have hown := World.ownsRow_lit (base := w.heap.size) (e := t) (size := 1) w xs.toArray xs.length (Nat.le_refl _) hm (by simp)
  simpa using hown.cells rfl
theorem lit_one (w : World) (x : Value) (t : TypeId) : ∀ j u, [x][j]? = some u → (w.alloc (.cells #[x] t)).cell? ((⟨w.heap.size, 0, none⟩ : Addr).add j) = some u := lit_cells w [x] t (by show 1 ≤ maxLen; unfold maxLen; omega)
theorem lit_three (w : World) (x y z : Value) (t : TypeId) : ∀ j u, [x, y, z][j]? = some u → (w.alloc (.cells #[x, y, z] t)).cell? ((⟨w.heap.size, 0, none⟩ : Addr).add j) = some u := lit_cells w [x, y, z] t (by show 3 ≤ maxLen; unfold maxLen; omega)
theorem ints_one (k : IntKind) (xs : List Int) : ∀ u ∈ xs.map (Value.int k), u.oneCell' = true := by
  intro u hu
  obtain ⟨x, _, rfl⟩ := List.mem_map.1 hu
  rfl
theorem int_one (k : IntKind) (x : Int) : ∀ u ∈ [Value.int k x], u.oneCell' = true := ints_one k [x]
theorem int_three (k : IntKind) (x y z : Int) : ∀ u ∈ [Value.int k x, .int k y, .int k z], u.oneCell' = true := ints_one k [x, y, z]
theorem string_one (s : ByteArray) : ∀ u ∈ [Value.string s], u.oneCell' = true := by
  intro u hu
  simp only [List.mem_cons, List.not_mem_nil, or_false] at hu
  subst hu
  rfl
/-- bytes as cells -/
def bcell (c : UInt8) : Value := .int .u8 (c.toNat : Int)
/-- a text's bytes as the program's own string -/
def bs (l : List UInt8) : ByteArray := ⟨l.toArray⟩
abbrev txt (l : List UInt8) : Value := .string (bs l)

theorem bs_data (l : List UInt8) : (bs l).data.toList = l := rfl
theorem of_bs (s : ByteArray) : bs s.data.toList = s := by cases s; rfl
theorem bs_size (l : List UInt8) : (bs l).size = l.length := by show l.toArray.size = l.length; simp
theorem data_len (s : ByteArray) : s.data.toList.length = s.size := by show s.data.toList.length = s.data.size; simp
theorem bs_append (a b : List UInt8) : bs a ++ bs b = bs (a ++ b) := by
  unfold bs
  apply ByteArray.ext
  simp
theorem data_get (s : ByteArray) (k : Nat) (h : k < s.size) : s.data.toList[k]'(by rw [data_len]; exact h) = s[k] := by
  cases s; rfl
theorem list_of (s : ByteArray) : s.toList = s.data.toList := ByteArray.toList_eq s
theorem empty_of (s : ByteArray) : (s.toList = [] ↔ s.size = 0) := by
  rw [list_of, ← data_len, List.length_eq_zero_iff]
theorem isEmpty_of (s : ByteArray) : (s.toList.isEmpty = decide (s.size = 0)) := by
  rw [Bool.eq_iff_iff, List.isEmpty_iff, empty_of, decide_eq_true_iff]

theorem foldl_push (bs : List UInt8) (r : ByteArray) :
    ((bs.map (fun c => (c.toNat : Int))).foldl (fun r n => r.push (UInt8.ofNat n.toNat)) r) = ⟨(r.data.toList ++ bs).toArray⟩ := by
  induction bs generalizing r with
  | nil => cases r; simp
  | cons c bs ih =>
    simp only [List.map_cons, List.foldl_cons]
    rw [ih]
    cases r
    simp [ByteArray.push]

/-- 'string(b)' of a row of bytes -/
theorem run_text {P : Program} (w : World) {src dst e : TypeId} (hs : P.underlying src = some (.slice e)) (he : P.underlying e = some (.int .u8)) (hd : P.underlying dst = some .string)
    (a : Addr) (n cap : Nat) (bs : List UInt8) (hn : bs.length = n) (h : ∀ j u, (bs.map bcell)[j]? = some u → w.cell? (a.add j) = some u) :
    (convert src dst (.slice (some a) n cap)).run P w = .ok (txt bs) w := by
  subst hn
  have hl := run_loadCells_list (P := P) (w := w) a (bs.map bcell) h
  have e1 : bs.map bcell = (bs.map (fun c => (c.toNat : Int))).map (Value.int .u8) := by
    rw [List.map_map]; rfl
  rw [List.length_map] at hl
  rw [e1] at hl
  rw [run_convert_bytes_string w src dst e _ _ _ hs he hd, run_bytesToString w a bs.length cap _ hl, foldl_push]
  rfl

/-- 'string(b)' of a row of the call's own, nil or not -/
theorem run_text_own {P : Program} (w : World) {src dst e : TypeId} (hs : P.underlying src = some (.slice e)) (he : P.underlying e = some (.int .u8)) (hd : P.underlying dst = some .string)
    {base : Nat} {v : Value} (l : List UInt8) (hown : w.ownsRow base e 1 v l.length (l.map bcell)) :
    (convert src dst v).run P w = .ok (txt l) w := by
  rcases hown.2 with ⟨rfl, h0⟩ | ⟨g, cap, cur, rfl, _, _, _⟩
  · have hl : l = [] := List.eq_nil_of_length_eq_zero h0
    subst hl
    rw [run_convert_bytes_string w src dst e none 0 0 hs he hd]
    simp [Conv.bytesToString, txt, bs]
    rfl
  · exact run_text w hs he hd _ _ _ l rfl (hown.cells rfl)

/-- 'string([]byte{c})' -/
theorem run_text_new {P : Program} (w : World) {src dst e t : TypeId} (hs : P.underlying src = some (.slice e)) (he : P.underlying e = some (.int .u8)) (hd : P.underlying dst = some .string) (l : List UInt8) (hm : l.length ≤ maxLen) :
    (convert src dst (.slice (some ⟨w.heap.size, 0, none⟩) l.length l.length)).run P (w.alloc (.cells (l.map bcell).toArray t)) = .ok (txt l) (w.alloc (.cells (l.map bcell).toArray t)) := by
  have hown := World.ownsRow_lit (base := w.heap.size) (e := t) (size := 1) w (l.map bcell).toArray l.length (Nat.le_refl _) hm (by simp)
  exact run_text _ hs he hd _ _ _ l rfl (by simpa using hown.cells rfl)
end Go.Proofs.YtgmgccepmalahaaGreat

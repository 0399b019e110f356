/- Depth, number and form of values, as the reference tells them; what is good. -/
import Derived.Test.YtmdemcjmcnfjmaaGreatDoorSj
set_option linter.unusedSimpArgs false
set_option linter.unusedVariables false
namespace Go.Proofs.YtmdemcjmcnfjmaaGreatDoor
open Go.RowKit

/- The greatest of a list. -/
def top (l : List Nat) : Nat := l.foldr max 0
def dpt : V → Nat
  | ⟨_, _, _, _, l⟩ => top (l.map dpt) + 1
def dpts (xs : List V) : Nat := top (xs.map dpt)
theorem dpts_nil : dpts [] = 0 := rfl
theorem dpts_cons (x : V) (xs : List V) : dpts (x :: xs) = max (dpt x) (dpts xs) := by simp [dpts, top]
def shp : V → Bool
  | ⟨k, n, s, ks, l⟩ => shapedB ⟨k, n, s, ks, l⟩ && (l.map shp).all id
def shps (xs : List V) : Bool := (xs.map shp).all id
theorem shps_nil : shps [] = true := rfl
theorem shps_cons (x : V) (xs : List V) : shps (x :: xs) = (shp x && shps xs) := by simp [shps]
theorem dpt_eq (t : V) : dpt t = dpts t.l + 1 := by cases t; rw [dpt]; rfl
theorem shp_eq (t : V) : shp t = (shapedB t && shps t.l) := by cases t; rw [shp]; rfl
theorem dpts_snoc (x : V) : ∀ (xs : List V), dpts (xs ++ [x]) = max (dpts xs) (dpt x)
  | [] => by simp [dpts_nil, dpts_cons]
  | y :: xs => by rw [List.cons_append, dpts_cons, dpts_cons, dpts_snoc x xs]; omega
theorem cnts_snoc (x : V) : ∀ (xs : List V), cnts (xs ++ [x]) = cnts xs + cnt x
  | [] => by simp [cnts_nil, cnts_cons]
  | y :: xs => by rw [List.cons_append, cnts_cons, cnts_cons, cnts_snoc x xs]; omega
theorem shps_snoc (x : V) : ∀ (xs : List V), shps (xs ++ [x]) = (shps xs && shp x)
  | [] => by simp [shps_nil, shps_cons]
  | y :: xs => by rw [List.cons_append, shps_cons, shps_cons, shps_snoc x xs, Bool.and_assoc]
theorem take_snocV {xs : List V} {k : Nat} (h : k < xs.length) : xs.take (k + 1) = xs.take k ++ [xs[k]] := List.take_succ_eq_append_getElem h
theorem cnts_take {xs : List V} (k : Nat) : cnts (xs.take k) ≤ cnts xs := by
  induction xs generalizing k with
  | nil => simp [cnts_nil]
  | cons x xs ih =>
    cases k with
    | zero => simp [cnts_nil]
    | succ k => rw [List.take_succ_cons, cnts_cons, cnts_cons]; have := ih k; omega
theorem dpts_mem {xs : List V} {x : V} (h : x ∈ xs) : dpt x ≤ dpts xs := by
  induction xs with
  | nil => cases h
  | cons y xs ih =>
    rw [dpts_cons]
    rcases List.mem_cons.1 h with rfl | h
    · omega
    · have := ih h; omega
theorem dpts_le {xs : List V} {D : Nat} (h : ∀ x ∈ xs, dpt x ≤ D) : dpts xs ≤ D := by
  induction xs with
  | nil => simp [dpts_nil]
  | cons y xs ih =>
    rw [dpts_cons]
    have h1 := h y (by simp)
    have h2 := ih fun x hx => h x (by simp [hx])
    omega
theorem shps_iff {xs : List V} : shps xs = true ↔ ∀ x ∈ xs, shp x = true := by
  induction xs with
  | nil => simp [shps_nil]
  | cons y xs ih => rw [shps_cons, Bool.and_eq_true, ih]; simp
theorem dpts_cnt_of : ∀ (l : List V), (∀ x ∈ l, dpt x ≤ cnt x) → dpts l ≤ cnts l
  | [], _ => by simp [dpts_nil, cnts_nil]
  | x :: l, h => by
    rw [dpts_cons, cnts_cons]
    have h1 := h x (by simp)
    have h2 := dpts_cnt_of l fun y hy => h y (by simp [hy])
    omega
theorem dpt_cnt : ∀ (t : V), dpt t ≤ cnt t
  | ⟨k, n, s, ks, l⟩ => by
    rw [dpt_eq, cnt_eq]
    have h : ∀ x ∈ l, dpt x ≤ cnt x := fun x hx => dpt_cnt x
    have := dpts_cnt_of l h
    simp only
    omega
theorem dpts_cnt (l : List V) : dpts l ≤ cnts l := dpts_cnt_of l fun x _ => dpt_cnt x
theorem goodT_iff (D : Nat) : ∀ (t : V), GoodT D t ↔ shp t = true ∧ dpt t ≤ D := by
  induction D with
  | zero => intro t; rw [dpt_eq]; simp [GoodT]
  | succ D ih =>
    intro t
    rw [shp_eq, dpt_eq, Bool.and_eq_true, shps_iff]
    constructor
    · rintro ⟨h1, h2⟩
      refine ⟨⟨h1, fun x hx => ((ih x).1 (h2 x hx)).1⟩, ?_⟩
      have := dpts_le (D := D) fun x hx => ((ih x).1 (h2 x hx)).2
      omega
    · rintro ⟨⟨h1, h2⟩, h3⟩
      exact ⟨h1, fun x hx => (ih x).2 ⟨h2 x hx, by have := dpts_mem hx; omega⟩⟩
/- What GoodValue answers is what Good answers. -/
theorem good_ref (t : V) : (decide (dpt t ≤ 12) && decide (cnt t ≤ 120) && shp t) = goodV t := by
  rw [Bool.eq_iff_iff, good_iff, goodT_iff]
  simp only [Bool.and_eq_true, decide_eq_true_eq]
  constructor
  · rintro ⟨⟨h1, h2⟩, h3⟩
    exact ⟨⟨h3, h1⟩, by rw [← cnt_sz 12 t ((goodT_iff 12 t).2 ⟨h3, h1⟩)]; exact h2⟩
  · rintro ⟨⟨h3, h1⟩, h2⟩
    exact ⟨⟨h1, by rw [cnt_sz 12 t ((goodT_iff 12 t).2 ⟨h3, h1⟩)]; exact h2⟩, h3⟩
end Go.Proofs.YtmdemcjmcnfjmaaGreatDoor

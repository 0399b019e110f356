/- Places in values, plainly: what Get, Add, Put and Remove of package point answer. -/
import Derived.Test.YtmdemcjmcnfjmaaGreatDoorUc
set_option linter.unusedSimpArgs false
set_option linter.unusedVariables false
namespace Go.Proofs.YtmdemcjmcnfjmaaGreatDoor
open Go.RowKit

/- A name as a number; as a place in a list. -/
def numF : Nat → List UInt8 → Option Nat
  | a, [] => some a
  | a, c :: r => if 48 ≤ c.toNat ∧ c.toNat ≤ 57 then numF (a * 10 + (c.toNat - 48)) r else none
def numP (s : List UInt8) : Option Nat :=
  if s = [] ∨ 4 < s.length ∨ (s.head? = some 48 ∧ s ≠ [48]) then none else numF 0 s
def placeP (n : Nat) (s : List UInt8) : Option Nat :=
  if s = [45] then some n else (numP s).bind fun i => if i ≤ n then some i else none
/- What a name means; what is added, replaced, removed there. -/
def meantV (t : V) (s : List UInt8) : Option V := if t.kind = 4 then (placeP t.l.length s).bind fun i => t.l[i]? else memV t s
def addedV (x : V) (t : V) (s : List UInt8) : Option V :=
  if t.kind = 5 then some (withV t s x) else if t.kind = 4 then (placeP t.l.length s).map fun i => { t with l := t.l.take i ++ x :: t.l.drop i } else none
def replacedV (x : V) (t : V) (s : List UInt8) : Option V :=
  (meantV t s).bind fun _ => if t.kind = 5 then some (withV t s x) else (placeP t.l.length s).map fun i => { t with l := t.l.take i ++ x :: t.l.drop (i + 1) }
def removedV (t : V) (s : List UInt8) : Option V :=
  (meantV t s).bind fun _ => if t.kind = 5 then some (withoutV t s) else (placeP t.l.length s).map fun i => { t with l := t.l.take i ++ t.l.drop (i + 1) }
def downV (how : V → List UInt8 → Option V) : List (List UInt8) → V → Option V
  | [], _ => none
  | [s], t => how t s
  | s :: r :: rs, t => (meantV t s).bind fun y => (downV how (r :: rs) y).bind fun y' => replacedV y' t s
def getV : List (List UInt8) → V → Option V
  | [], t => some t
  | s :: r, t => (meantV t s).bind (getV r)

theorem place_le {n : Nat} {s : List UInt8} {i : Nat} (h : placeP n s = some i) : i ≤ n := by
  unfold placeP at h
  split at h
  · cases h; omega
  · rw [Option.bind_eq_some_iff] at h
    obtain ⟨j, -, h⟩ := h
    split at h
    · cases h; assumption
    · cases h
theorem place_more {n m : Nat} {s : List UInt8} {i : Nat} (h : placeP n s = some i) (hs : s ≠ [45]) (hm : i ≤ m) : placeP m s = some i := by
  unfold placeP at h ⊢
  rw [if_neg hs] at h ⊢
  rw [Option.bind_eq_some_iff] at h ⊢
  obtain ⟨j, h1, h⟩ := h
  split at h
  · cases h; exact ⟨i, h1, by rw [if_pos hm]⟩
  · cases h
theorem meant_mem {t y : V} {s : List UInt8} (h : meantV t s = some y) : y ∈ t.l := by
  unfold meantV at h
  split at h
  · rw [Option.bind_eq_some_iff] at h
    obtain ⟨i, -, h⟩ := h
    exact List.mem_of_getElem? h
  · unfold memV at h
    rw [Option.bind_eq_some_iff] at h
    obtain ⟨i, -, h⟩ := h
    exact List.mem_of_getElem? h
/- What a name means in what is no list: an object's member. -/
theorem meant_kind {t y : V} {s : List UInt8} (h : meantV t s = some y) : (t.kind = 5 ∧ pairedV t = true ∧ memV t s = some y) ∨ (t.kind = 4 ∧ ∃ i, placeP t.l.length s = some i ∧ i < t.l.length ∧ t.l[i]? = some y) := by
  unfold meantV at h
  split at h
  · rename_i hk
    rw [Option.bind_eq_some_iff] at h
    obtain ⟨i, h1, h⟩ := h
    exact .inr ⟨hk, i, h1, (List.getElem?_eq_some_iff.1 h).1, h⟩
  · refine .inl ?_
    have h0 := h
    unfold memV at h
    rw [Option.bind_eq_some_iff] at h
    obtain ⟨i, h1, h⟩ := h
    obtain ⟨f1, -⟩ := findV_some h1
    have f2 := f1
    simp only [pairedV, Bool.and_eq_true, decide_eq_true_eq] at f2
    exact ⟨f2.1, f1, h0⟩
theorem with_kind (t : V) (s : List UInt8) (x : V) : (withV t s x).kind = t.kind := by
  unfold withV
  split
  · split <;> rfl
  · rfl
theorem take_put {l : List V} {i : Nat} (h : i ≤ l.length) (x : V) (r : List V) : (l.take i ++ x :: r)[i]? = some x := by
  rw [List.getElem?_append_right (by simp; omega)]
  simp [List.length_take, Nat.min_eq_left h]
theorem V_eta (t : V) : (⟨t.kind, t.n, t.s, t.keys, t.l⟩ : V) = t := by cases t; rfl
/- What is put where something is, is there. -/
theorem meant_replaced {t x w : V} {s : List UInt8} (h : replacedV x t s = some w) : meantV w s = some x := by
  unfold replacedV at h
  rw [Option.bind_eq_some_iff] at h
  obtain ⟨y, h1, h⟩ := h
  rcases meant_kind h1 with ⟨hk, hp, hm⟩ | ⟨hk, i, hi, hlt, hy⟩
  · rw [if_pos hk] at h
    cases h
    unfold meantV
    rw [with_kind, if_neg (by omega), mem_with hp]
  · rw [if_neg (by omega), hi] at h
    cases h
    unfold meantV
    rw [if_pos hk]
    have e : (t.l.take i ++ x :: t.l.drop (i + 1)).length = t.l.length := by simp; omega
    simp only [e, hi, Option.bind_some]
    exact take_put (by omega) _ _
theorem meant_added {t x w : V} {s : List UInt8} (ht : t.kind = 5 → pairedV t = true) (h : addedV x t s = some w) (hs : s ≠ [45]) : meantV w s = some x := by
  unfold addedV at h
  split at h
  · rename_i hk
    cases h
    unfold meantV
    rw [with_kind, if_neg (by omega), mem_with (ht hk)]
  · split at h
    · rename_i hk
      rw [Option.map_eq_some_iff] at h
      obtain ⟨i, hi, rfl⟩ := h
      have hle := place_le hi
      unfold meantV
      rw [if_pos hk]
      have e : (t.l.take i ++ x :: t.l.drop i).length = t.l.length + 1 := by simp; omega
      simp only [e, place_more hi hs (show i ≤ t.l.length + 1 by omega), Option.bind_some]
      exact take_put hle _ _
    · cases h
/- What is done below, is there. -/
theorem get_down {how : V → List UInt8 → Option V} {x : V} {Q : V → Prop} (hQ : ∀ t s y, Q t → meantV t s = some y → Q y) : ∀ (ns : List (List UInt8)) (t w : V), Q t →
    (∀ t w s, Q t → ns.getLast? = some s → how t s = some w → meantV w s = some x) → downV how ns t = some w → getV ns w = some x
  | [], t, w, _, _, h => by cases h
  | [s], t, w, hq, hh, h => by
    rw [downV] at h
    rw [getV, hh t w s hq rfl h]; rfl
  | s :: r :: rs, t, w, hq, hh, h => by
    rw [downV, Option.bind_eq_some_iff] at h
    obtain ⟨y, h1, h⟩ := h
    rw [Option.bind_eq_some_iff] at h
    obtain ⟨y', h2, h⟩ := h
    rw [getV, meant_replaced h]
    exact get_down hQ (r :: rs) y y' (hQ t s y hq h1) (fun t w s' hq' hl => hh t w s' hq' (by rw [List.getLast?_cons_cons]; exact hl)) h2

/- Good values: all of it good, and not too many. -/
def szD : Nat → V → Nat
  | 0, _ => 0
  | D + 1, t => 1 + (t.l.map (szD D)).sum
theorem good_sz (D : Nat) : ∀ (t : V) (r p : Int), 0 ≤ r → (goodS D t r = (true, p) ↔ GoodT D t ∧ (szD D t : Int) ≤ r ∧ p = r - szD D t) := by
  induction D with
  | zero => intro t r p _; simp [goodS, GoodT]
  | succ D ih =>
    have hf : ∀ (l : List V) (r p : Int), 0 ≤ r → (gfold D l r = (true, p) ↔ (∀ x ∈ l, GoodT D x) ∧ (((l.map (szD D)).sum : Nat) : Int) ≤ r ∧ p = r - ((l.map (szD D)).sum : Nat)) := by
      intro l
      induction l with
      | nil => intro r p h; simp [gfold]; omega
      | cons y l ihl =>
        intro r p h
        constructor
        · intro hg
          obtain ⟨q, h1, h2⟩ := gfold_cons hg
          obtain ⟨a1, a2, a3⟩ := (ih y r q h).1 h1
          obtain ⟨b1, b2, b3⟩ := (ihl q p (by omega)).1 h2
          refine ⟨?_, ?_, ?_⟩
          · intro x hx
            rcases List.mem_cons.1 hx with rfl | hx
            · exact a1
            · exact b1 x hx
          · simp only [List.map_cons, List.sum_cons]; omega
          · simp only [List.map_cons, List.sum_cons]; omega
        · rintro ⟨h1, h2, h3⟩
          simp only [List.map_cons, List.sum_cons] at h2 h3
          have e1 := (ih y r (r - szD D y) h).2 ⟨h1 y (by simp), by omega, rfl⟩
          have e2 := (ihl (r - szD D y) p (by omega)).2 ⟨fun x hx => h1 x (by simp [hx]), by omega, by omega⟩
          unfold gfold at e2 ⊢
          rw [List.foldl_cons]
          simp only [if_true]
          rw [e1]; exact e2
    intro t r p h
    constructor
    · intro hg
      obtain ⟨D', e, hs, h0, hg⟩ := goodS_succ hg
      cases e
      obtain ⟨b1, b2, b3⟩ := (hf t.l (r - 1) p h0).1 hg
      refine ⟨⟨hs, b1⟩, ?_, ?_⟩
      · simp only [szD]; omega
      · simp only [szD]; omega
    · rintro ⟨⟨h1, h2⟩, h3, h4⟩
      simp only [szD] at h3 h4
      have e := (hf t.l (r - 1) p (by omega)).2 ⟨h2, by omega, by omega⟩
      simp only [goodS]
      rw [if_neg (by rw [h1]; simp; omega)]
      exact e
theorem good_iff (t : V) : goodV t = true ↔ GoodT 12 t ∧ szD 12 t ≤ 120 := by
  unfold goodV
  constructor
  · intro h
    obtain ⟨a, b, -⟩ := (good_sz 12 t 120 _ (by omega)).1 (show goodS 12 t 120 = (true, (goodS 12 t 120).2) by rw [← h])
    exact ⟨a, by omega⟩
  · rintro ⟨a, b⟩
    have := (good_sz 12 t 120 (120 - szD 12 t) (by omega)).2 ⟨a, by omega, rfl⟩
    rw [this]
theorem sum_mem {f : V → Nat} {l : List V} {x : V} (h : x ∈ l) : f x ≤ (l.map f).sum := by
  induction l with
  | nil => cases h
  | cons y l ih =>
    simp only [List.map_cons, List.sum_cons]
    rcases List.mem_cons.1 h with rfl | h
    · omega
    · have := ih h; omega
theorem sz_len (D : Nat) (t : V) (h : GoodT (D + 1) t) : t.l.length ≤ szD (D + 1) t := by
  simp only [szD]
  obtain ⟨-, h⟩ := h
  generalize t.l = l at h
  induction l with
  | nil => simp
  | cons y l ih =>
    have h1 := ih fun x hx => h x (by simp [hx])
    simp only [List.map_cons, List.sum_cons, List.length_cons]
    have : 1 ≤ szD D y := by
      have := h y (by simp)
      cases D with
      | zero => exact this.elim
      | succ D => simp only [szD]; omega
    omega
/- A part of a good value: good, as far as it goes. -/
def Nice (t : V) : Prop := ∃ D, GoodT D t ∧ szD D t ≤ 120
theorem nice_of {t : V} (h : goodV t = true) : Nice t := ⟨12, (good_iff t).1 h⟩
theorem nice_len {t : V} (h : Nice t) : t.l.length ≤ 120 := by
  obtain ⟨D, h1, h2⟩ := h
  cases D with
  | zero => exact h1.elim
  | succ D => have := sz_len D t h1; omega
theorem nice_shaped {t : V} (h : Nice t) : shapedB t = true := by
  obtain ⟨D, h1, h2⟩ := h
  cases D with
  | zero => exact h1.elim
  | succ D => exact h1.1
theorem nice_mem {t x : V} (h : Nice t) (hx : x ∈ t.l) : Nice x := by
  obtain ⟨D, h1, h2⟩ := h
  cases D with
  | zero => exact h1.elim
  | succ D =>
    refine ⟨D, h1.2 x hx, ?_⟩
    have := sum_mem (f := szD D) hx
    simp only [szD] at h2; omega
theorem nice_meant {t y : V} {s : List UInt8} (h : Nice t) (hm : meantV t s = some y) : Nice y := nice_mem h (meant_mem hm)
theorem shaped_object {t : V} (hs : shapedB t = true) (hk : t.kind = 5) : pairedV t = true ∧ riseFrom none t.keys = true ∧ t.n = 0 ∧ t.s = [] := by
  unfold shapedB at hs
  rw [hk] at hs
  simp only [Int.reduceEq, if_false, if_true, Bool.and_eq_true, decide_eq_true_eq] at hs
  obtain ⟨⟨⟨a1, a2⟩, a3⟩, a4⟩ := hs
  exact ⟨by simp [pairedV, hk, a3], a4, a1, a2⟩
theorem nice_paired {t : V} (h : Nice t) (hk : t.kind = 5) : pairedV t = true := (shaped_object (nice_shaped h) hk).1
/- P2.3 to P2.6: what is added or put is got. -/
theorem get_put {x t w : V} {ns : List (List UInt8)} (h : downV (replacedV x) ns t = some w) : getV ns w = some x :=
  get_down (Q := fun _ => True) (fun _ _ _ _ _ => trivial) ns t w trivial (fun _ _ _ _ _ h => meant_replaced h) h
theorem get_add {x t w : V} {ns : List (List UInt8)} (ht : Nice t) (hl : ns.getLast? ≠ some [45]) (h : downV (addedV x) ns t = some w) : getV ns w = some x :=
  get_down (Q := Nice) (fun _ _ _ => nice_meant) ns t w ht (fun t w s hq hs h => meant_added (nice_paired hq) h (fun e => hl (by rw [hs, e]))) h

/- To take away what was added. -/
theorem idx_ins {k : List UInt8} (b : List (List UInt8)) : ∀ (a : List (List UInt8)), k ∉ a → idxL k (a ++ k :: b) = some a.length
  | [], _ => by simp [idxL]
  | c :: a, h => by
    simp only [List.mem_cons, not_or] at h
    rw [List.cons_append, idxL, if_neg (fun e => h.1 e.symm), idx_ins b a h.2]; rfl
theorem without_with {t : V} (hp : pairedV t = true) {s : List UInt8} (h : memV t s = none) (x : V) : withoutV (withV t s x) s = t := by
  have hl : t.keys.length = t.l.length := by
    simp only [pairedV, Bool.and_eq_true, decide_eq_true_eq] at hp; exact hp.2
  have hi : idxL s t.keys = none := by
    cases hi : idxL s t.keys with
    | none => rfl
    | some i =>
      exfalso
      have h1 := (idxL_lt hi).1
      simp only [memV, findV, if_pos hp, hi, Option.bind_some] at h
      rw [List.getElem?_eq_getElem (by omega)] at h
      cases h
  have hw := with_paired hp s x
  have hn := idxL_not hi
  have hle : insV s t.keys ≤ t.keys.length := (List.takeWhile_sublist _).length_le
  have e : withV t s x = { t with keys := t.keys.take (insV s t.keys) ++ s :: t.keys.drop (insV s t.keys), l := t.l.take (insV s t.keys) ++ x :: t.l.drop (insV s t.keys) } := by
    unfold withV; rw [if_pos hp, hi]
  have hf : findV (withV t s x) s = some (insV s t.keys) := by
    unfold findV
    rw [if_pos hw, e]
    simp only
    rw [idx_ins _ _ (fun hm => hn (List.mem_of_mem_take hm)), List.length_take, Nat.min_eq_left hle]
  unfold withoutV
  rw [hf, e]
  simp only
  generalize insV s t.keys = i at hle
  have k1 : ∀ {α : Type} (l : List α) (y : α), i ≤ l.length → (l.take i ++ y :: l.drop i).take i ++ (l.take i ++ y :: l.drop i).drop (i + 1) = l := by
    intro α l y hi
    have e1 : (l.take i).length = i := by simp [hi]
    rw [List.take_append_of_le_length (by omega), List.take_of_length_le (by omega), List.drop_append, e1]
    simp only [Nat.add_sub_cancel_left, List.drop_succ_cons, List.drop_zero]
    rw [List.drop_of_length_le (by omega), List.nil_append, List.take_append_drop]
  rw [k1 _ _ hle, k1 _ _ (by omega)]
  exact V_eta t
theorem take_out {l : List V} {i : Nat} (x : V) (h : i ≤ l.length) : (l.take i ++ x :: l.drop i).take i ++ (l.take i ++ x :: l.drop i).drop (i + 1) = l := by
  have e1 : (l.take i).length = i := by simp [h]
  rw [List.take_append_of_le_length (by omega), List.take_of_length_le (by omega), List.drop_append, e1]
  simp only [Nat.add_sub_cancel_left, List.drop_succ_cons, List.drop_zero]
  rw [List.drop_of_length_le (by omega), List.nil_append, List.take_append_drop]
theorem put_put {α : Type} {l : List α} {i : Nat} (x y : α) (h : i < l.length) : (l.take i ++ x :: l.drop (i + 1)).take i ++ y :: (l.take i ++ x :: l.drop (i + 1)).drop (i + 1) = l.take i ++ y :: l.drop (i + 1) := by
  have e1 : (l.take i).length = i := by simp; omega
  rw [List.take_append_of_le_length (by omega), List.take_of_length_le (by omega), List.drop_append, e1]
  simp only [Nat.add_sub_cancel_left, List.drop_succ_cons, List.drop_zero]
  rw [List.drop_of_length_le (by omega), List.nil_append]
theorem put_self {α : Type} {l : List α} {i : Nat} {x : α} (h : l[i]? = some x) : l.take i ++ x :: l.drop (i + 1) = l := by
  obtain ⟨h1, h2⟩ := List.getElem?_eq_some_iff.1 h
  rw [← h2, ← List.drop_eq_getElem_cons h1, List.take_append_drop]
/- Where a name is: of what is there. -/
def atV (t : V) (s : List UInt8) : Option Nat := if t.kind = 4 then (placeP t.l.length s).bind fun i => if i < t.l.length then some i else none else findV t s
theorem at_lt {t : V} {s : List UInt8} {i : Nat} (h : atV t s = some i) : i < t.l.length := by
  unfold atV at h
  split at h
  · rw [Option.bind_eq_some_iff] at h
    obtain ⟨j, -, h⟩ := h
    split at h
    · cases h; assumption
    · cases h
  · exact (findV_some h).2.2.1
theorem meant_at (t : V) (s : List UInt8) : meantV t s = (atV t s).bind fun i => t.l[i]? := by
  unfold meantV atV
  split
  · cases h : placeP t.l.length s with
    | none => rfl
    | some i =>
      simp only [Option.bind_some]
      split
      · rfl
      · rw [List.getElem?_eq_none (by omega)]; rfl
  · rfl
theorem meant_some {t y : V} {s : List UInt8} (h : meantV t s = some y) : ∃ i, atV t s = some i ∧ t.l[i]? = some y := by
  rw [meant_at, Option.bind_eq_some_iff] at h; exact h
theorem replaced_at (x t : V) (s : List UInt8) : replacedV x t s = (atV t s).map fun i => { t with l := t.l.take i ++ x :: t.l.drop (i + 1) } := by
  unfold replacedV
  cases h : meantV t s with
  | none =>
    rw [meant_at] at h
    cases ha : atV t s with
    | none => rfl
    | some i =>
      rw [ha, Option.bind_some, List.getElem?_eq_getElem (at_lt ha)] at h
      cases h
  | some y =>
    rw [Option.bind_some]
    rcases meant_kind h with ⟨hk, hp, hm⟩ | ⟨hk, i, hi, hlt, hy⟩
    · rw [if_pos hk]
      unfold atV
      rw [if_neg (by omega)]
      unfold memV at hm
      rw [Option.bind_eq_some_iff] at hm
      obtain ⟨i, h1, -⟩ := hm
      rw [h1]
      unfold withV
      rw [if_pos hp, (findV_some h1).2.1]; rfl
    · rw [if_neg (by omega), hi]
      unfold atV
      rw [if_pos hk, hi, Option.bind_some, if_pos hlt]
theorem removed_at (t : V) (s : List UInt8) : removedV t s = (atV t s).map fun i => { t with keys := if t.kind = 5 then t.keys.take i ++ t.keys.drop (i + 1) else t.keys, l := t.l.take i ++ t.l.drop (i + 1) } := by
  unfold removedV
  cases h : meantV t s with
  | none =>
    rw [meant_at] at h
    cases ha : atV t s with
    | none => rfl
    | some i =>
      rw [ha, Option.bind_some, List.getElem?_eq_getElem (at_lt ha)] at h
      cases h
  | some y =>
    rw [Option.bind_some]
    rcases meant_kind h with ⟨hk, hp, hm⟩ | ⟨hk, i, hi, hlt, hy⟩
    · rw [if_pos hk]
      unfold atV
      rw [if_neg (by omega)]
      unfold memV at hm
      rw [Option.bind_eq_some_iff] at hm
      obtain ⟨i, h1, -⟩ := hm
      rw [h1]
      unfold withoutV
      rw [h1, Option.map_some, if_pos hk]
    · rw [if_neg (by omega), hi]
      unfold atV
      rw [if_pos hk, hi, Option.bind_some, if_pos hlt, Option.map_some, Option.map_some, if_neg (by omega)]
theorem at_put (t : V) (s : List UInt8) (l : List V) (h : l.length = t.l.length) : atV { t with l := l } s = atV t s := by
  unfold atV findV pairedV
  simp only [h]
theorem put_len {l : List V} {i : Nat} (h : i < l.length) (x : V) : (l.take i ++ x :: l.drop (i + 1)).length = l.length := by simp; omega
theorem replaced_twice {t w y z : V} {s : List UInt8} (h : replacedV y t s = some w) : replacedV z w s = replacedV z t s := by
  rw [replaced_at, Option.map_eq_some_iff] at h
  obtain ⟨i, hi, rfl⟩ := h
  have hl := at_lt hi
  rw [replaced_at, at_put _ _ _ (put_len hl y), hi, replaced_at, hi]
  simp only [Option.map_some, put_put y z hl]
theorem replaced_self {t y : V} {s : List UInt8} (h : meantV t s = some y) : replacedV y t s = some t := by
  obtain ⟨i, hi, hy⟩ := meant_some h
  rw [replaced_at, hi]
  simp only [Option.map_some, put_self hy, V_eta]
/- What was added is taken away again. -/
theorem removed_added {t x w : V} {s : List UInt8} (ht : Nice t) (h : addedV x t s = some w) (hs : s ≠ [45]) : ∃ u, removedV w s = some u ∧ (meantV t s = none → u = t) := by
  have hm := meant_added (nice_paired ht) h hs
  unfold addedV at h
  split at h
  · rename_i hk
    cases h
    unfold removedV
    rw [hm, Option.bind_some, with_kind, if_pos hk]
    refine ⟨_, rfl, fun h => ?_⟩
    unfold meantV at h
    rw [if_neg (by omega)] at h
    exact without_with (nice_paired ht hk) h x
  · split at h
    · rename_i hk5 hk
      rw [Option.map_eq_some_iff] at h
      obtain ⟨i, hi, rfl⟩ := h
      have hle := place_le hi
      unfold removedV
      rw [hm, Option.bind_some]
      simp only
      rw [if_neg hk5]
      have e : (t.l.take i ++ x :: t.l.drop i).length = t.l.length + 1 := by simp; omega
      rw [e, place_more hi hs (show i ≤ t.l.length + 1 by omega)]
      refine ⟨_, rfl, fun _ => ?_⟩
      simp only
      rw [take_out x hle, V_eta]
    · cases h
theorem remove_add {x : V} : ∀ (ns : List (List UInt8)) (t u : V), Nice t → ns.getLast? ≠ some [45] → downV (addedV x) ns t = some u → ∃ w, downV removedV ns u = some w ∧ (getV ns t = none → w = t)
  | [], t, u, _, _, h => by cases h
  | [s], t, u, ht, hl, h => by
    rw [downV] at h
    obtain ⟨w, h1, h2⟩ := removed_added ht h (fun e => hl (by rw [e]; rfl))
    refine ⟨w, by rw [downV]; exact h1, fun hg => h2 ?_⟩
    rw [getV] at hg
    cases hm : meantV t s with
    | none => rfl
    | some y => rw [hm, Option.bind_some, getV] at hg; cases hg
  | s :: r :: rs, t, u, ht, hl, h => by
    rw [downV, Option.bind_eq_some_iff] at h
    obtain ⟨y, h1, h⟩ := h
    rw [Option.bind_eq_some_iff] at h
    obtain ⟨y', h2, h⟩ := h
    obtain ⟨z, z1, z2⟩ := remove_add (r :: rs) y y' (nice_meant ht h1) (fun e => hl (by rw [List.getLast?_cons_cons]; exact e)) h2
    rw [downV, meant_replaced h, Option.bind_some, z1, Option.bind_some, replaced_twice h]
    obtain ⟨i, hi, hy⟩ := meant_some h1
    refine ⟨{ t with l := t.l.take i ++ z :: t.l.drop (i + 1) }, by rw [replaced_at, hi]; rfl, fun hg => ?_⟩
    rw [getV, h1, Option.bind_some] at hg
    rw [z2 hg, put_self hy, V_eta]
/- Less of a good value is good. -/
theorem rise_of {ks : List (List UInt8)} : ∀ (p : Option (List UInt8)), (∀ a ∈ p, ∀ k ∈ ks, Op.bytesLess a k = true) → Rises ks → (∀ k ∈ ks, plainB k = true) → riseFrom p ks = true := by
  induction ks with
  | nil => intros; rfl
  | cons k ks ih =>
    intro p h1 h2 h3
    obtain ⟨h4, h5⟩ := List.pairwise_cons.1 h2
    have e1 := ih (some k) (fun a ha j hj => by cases ha; exact h4 j hj) h5 fun j hj => h3 j (by simp [hj])
    have e2 := h3 k (by simp)
    cases p with
    | none => simp [riseFrom, e1, e2]
    | some a => simp [riseFrom, e1, e2, h1 a rfl k (by simp)]
theorem rise_sub {ks ks' : List (List UInt8)} (hs : ks'.Sublist ks) (h : riseFrom none ks = true) : riseFrom none ks' = true := by
  obtain ⟨-, h2, h3⟩ := rise_pair ks none h
  exact rise_of none (fun _ h => by cases h) (h2.sublist hs) fun k hk => h3 k (hs.subset hk)
theorem out_sub {α : Type} (l : List α) (i : Nat) : (l.take i ++ l.drop (i + 1)).Sublist l := by
  have : l = l.take i ++ l.drop i := (List.take_append_drop i l).symm
  conv => rhs; rw [this]
  exact List.Sublist.append (List.Sublist.refl _) (by
    rw [← List.drop_drop]; exact List.drop_sublist _ _)
theorem sum_sub {f : V → Nat} {l m : List V} (h : l.Sublist m) : (l.map f).sum ≤ (m.map f).sum := by
  induction h with
  | slnil => simp
  | cons a _ ih => simp only [List.map_cons, List.sum_cons]; omega
  | cons_cons a _ ih => simp only [List.map_cons, List.sum_cons]; omega
theorem sum_put {f : V → Nat} {l : List V} {i : Nat} {y : V} (hy : l[i]? = some y) (x : V) (h : f x ≤ f y) : ((l.take i ++ x :: l.drop (i + 1)).map f).sum ≤ (l.map f).sum := by
  conv => rhs; rw [← put_self hy]
  simp only [List.map_append, List.map_cons, List.sum_append, List.sum_cons]
  omega
theorem shaped_put {t : V} (h : shapedB t = true) {l : List V} (hl : l.length = t.l.length) : shapedB { t with l := l } = true := by
  unfold shapedB listlessB at h ⊢
  simp only [hl]
  exact h
theorem shaped_out {t : V} (h : shapedB t = true) {s : List UInt8} {i : Nat} (hi : atV t s = some i) : shapedB { t with keys := if t.kind = 5 then t.keys.take i ++ t.keys.drop (i + 1) else t.keys, l := t.l.take i ++ t.l.drop (i + 1) } = true := by
  have hlt := at_lt hi
  unfold atV at hi
  split at hi
  · rename_i hk
    unfold shapedB at h ⊢
    simp only [hk, Int.reduceEq, if_false, if_true] at h ⊢
    exact h
  · obtain ⟨f1, -⟩ := findV_some hi
    simp only [pairedV, Bool.and_eq_true, decide_eq_true_eq] at f1
    obtain ⟨hk, hl⟩ := f1
    unfold shapedB at h ⊢
    simp only [hk, Int.reduceEq, if_false, if_true, Bool.and_eq_true, decide_eq_true_eq] at h ⊢
    obtain ⟨⟨⟨a1, a2⟩, a3⟩, a4⟩ := h
    exact ⟨⟨⟨a1, a2⟩, by simp only [List.length_append, List.length_take, List.length_drop]; omega⟩, rise_sub (out_sub _ _) a4⟩
theorem down_good : ∀ (ns : List (List UInt8)) (D : Nat) (t w : V), GoodT D t → downV removedV ns t = some w → GoodT D w ∧ szD D w ≤ szD D t
  | [], D, t, w, _, h => by cases h
  | [s], D, t, w, ht, h => by
    rw [downV, removed_at, Option.map_eq_some_iff] at h
    obtain ⟨i, hi, rfl⟩ := h
    cases D with
    | zero => exact ht.elim
    | succ D =>
      refine ⟨⟨shaped_out ht.1 hi, fun x hx => ht.2 x ((out_sub _ _).subset hx)⟩, ?_⟩
      simp only [szD]
      have := sum_sub (f := szD D) (out_sub t.l i)
      omega
  | s :: r :: rs, D, t, w, ht, h => by
    rw [downV, Option.bind_eq_some_iff] at h
    obtain ⟨y, h1, h⟩ := h
    rw [Option.bind_eq_some_iff] at h
    obtain ⟨y', h2, h⟩ := h
    cases D with
    | zero => exact ht.elim
    | succ D =>
      obtain ⟨g1, g2⟩ := down_good (r :: rs) D y y' (ht.2 y (meant_mem h1)) h2
      rw [replaced_at, Option.map_eq_some_iff] at h
      obtain ⟨i, hi, rfl⟩ := h
      have hlt := at_lt hi
      have hy : t.l[i]? = some y := by rw [meant_at, hi, Option.bind_some] at h1; exact h1
      refine ⟨⟨shaped_put ht.1 (put_len hlt y'), fun x hx => ?_⟩, ?_⟩
      · simp only [List.mem_append, List.mem_cons] at hx
        rcases hx with hx | rfl | hx
        · exact ht.2 x (List.mem_of_mem_take hx)
        · exact g1
        · exact ht.2 x (List.mem_of_mem_drop hx)
      · simp only [szD]
        have := sum_put (f := szD D) hy y' g2
        omega
theorem remove_good {ns : List (List UInt8)} {t w : V} (ht : goodV t = true) (h : downV removedV ns t = some w) : goodV w = true := by
  obtain ⟨h1, h2⟩ := (good_iff t).1 ht
  obtain ⟨g1, g2⟩ := down_good ns 12 t w h1 h
  exact (good_iff w).2 ⟨g1, by omega⟩
/- What Get, Add, Put and Remove answer, at the names of a path. -/
def zeroT : V := ⟨0, 0, [], [], []⟩
def getR (sp : List (List UInt8) × Int) (v : V) : V × Int :=
  if sp.2 ≠ 0 then (zeroT, sp.2) else if goodV v = false then (zeroT, 1) else match getV sp.1 v with | some y => (y, 0) | none => (zeroT, 3)
def changeR (how : V → List UInt8 → Option V) (sp : List (List UInt8) × Int) (v : V) : V × Int :=
  if sp.2 ≠ 0 then (v, sp.2) else if sp.1 = [] ∨ goodV v = false then (v, 1) else match downV how sp.1 v with | none => (v, 3) | some w => if goodV w then (w, 0) else (v, 2)
def layR (how : V → V → List UInt8 → Option V) (p : List UInt8) (sp : List (List UInt8) × Int) (v x : V) : V × Int :=
  if goodV x = false then (v, 1) else if p = [] ∧ goodV v = true then (x, 0) else changeR (how x) sp v
theorem change_ok {how : V → List UInt8 → Option V} {sp : List (List UInt8) × Int} {v w : V} (h : changeR how sp v = (w, 0)) : sp.2 = 0 ∧ sp.1 ≠ [] ∧ goodV v = true ∧ downV how sp.1 v = some w ∧ goodV w = true := by
  unfold changeR at h
  split at h
  · rename_i h0; simp only [Prod.mk.injEq] at h; exact absurd h.2 h0
  · rename_i h0
    split at h
    · simp at h
    · rename_i h1
      simp only [not_or, Bool.not_eq_false] at h1
      split at h
      · simp at h
      · rename_i u hu
        split at h
        · rename_i hg
          simp only [Prod.mk.injEq, and_true] at h
          subst h
          exact ⟨by simpa using h0, h1.1, h1.2, hu, hg⟩
        · simp at h
theorem change_err {how : V → List UInt8 → Option V} {sp : List (List UInt8) × Int} {v : V} (h : (changeR how sp v).2 ≠ 0) : (changeR how sp v).1 = v := by
  unfold changeR at h ⊢
  split
  · rfl
  · split
    · rfl
    · split
      · rfl
      · split
        · rename_i h0 h1 _ u hu hg
          rw [if_neg h0, if_neg h1, hu] at h
          simp [hg] at h
        · rfl
theorem lay_err {how : V → V → List UInt8 → Option V} {p : List UInt8} {sp : List (List UInt8) × Int} {v x : V} (h : (layR how p sp v x).2 ≠ 0) : (layR how p sp v x).1 = v := by
  unfold layR at h ⊢
  split
  · rfl
  · rename_i h0
    rw [if_neg h0] at h
    split
    · rename_i h1; rw [if_pos h1] at h; simp at h
    · rename_i h1; rw [if_neg h1] at h; exact change_err h
theorem lay_ok {how : V → V → List UInt8 → Option V} {p : List UInt8} {sp : List (List UInt8) × Int} {v x w : V} (h : layR how p sp v x = (w, 0)) :
    goodV x = true ∧ goodV v = true ∧ goodV w = true ∧ (p = [] ∧ w = x ∨ sp.2 = 0 ∧ sp.1 ≠ [] ∧ downV (how x) sp.1 v = some w) := by
  unfold layR at h
  split at h
  · simp at h
  · rename_i h0
    simp only [Bool.not_eq_false] at h0
    split at h
    · rename_i h1
      simp only [Prod.mk.injEq, and_true] at h
      subst h
      exact ⟨h0, h1.2, h0, .inl ⟨h1.1, rfl⟩⟩
    · obtain ⟨a, b, c, d, e⟩ := change_ok h
      exact ⟨h0, c, e, .inr ⟨a, b, d⟩⟩
theorem get_ok {sp : List (List UInt8) × Int} {v y : V} (h0 : sp.2 = 0) (hg : goodV v = true) (hy : getV sp.1 v = some y) : getR sp v = (y, 0) := by
  unfold getR
  rw [if_neg (by simp [h0]), if_neg (by simp [hg]), hy]
theorem get_good {sp : List (List UInt8) × Int} {v y : V} (h : getR sp v = (y, 0)) : goodV v = true ∧ sp.2 = 0 ∧ getV sp.1 v = some y := by
  unfold getR at h
  split at h
  · rename_i h0; simp only [Prod.mk.injEq] at h; exact absurd h.2 h0
  · rename_i h0
    split at h
    · simp at h
    · rename_i h1
      split at h
      · rename_i z hz
        simp only [Prod.mk.injEq, and_true] at h
        subst h
        exact ⟨by simpa using h1, by simpa using h0, hz⟩
      · simp at h
/- PointAdds. -/
theorem put_get {p : List UInt8} {sp : List (List UInt8) × Int} (hsp : p = [] → sp = ([], 0)) {v x w : V} (h : layR replacedV p sp v x = (w, 0)) : getR sp w = (x, 0) := by
  obtain ⟨h1, h2, h3, h4⟩ := lay_ok h
  rcases h4 with ⟨hp, rfl⟩ | ⟨h4, h5, h6⟩
  · rw [hsp hp]; exact get_ok rfl h3 rfl
  · exact get_ok h4 h3 (get_put h6)
theorem add_get {p : List UInt8} {sp : List (List UInt8) × Int} (hsp : p = [] → sp = ([], 0)) {v x w : V} (h : layR addedV p sp v x = (w, 0)) (hl : sp.1.getLast? ≠ some [45]) : getR sp w = (x, 0) := by
  obtain ⟨h1, h2, h3, h4⟩ := lay_ok h
  rcases h4 with ⟨hp, rfl⟩ | ⟨h4, h5, h6⟩
  · rw [hsp hp]; exact get_ok rfl h3 rfl
  · exact get_ok h4 h3 (get_add (nice_of h2) hl h6)
/- PointUndoes. -/
theorem add_remove {p : List UInt8} {sp : List (List UInt8) × Int} (hsp : p = [] → sp = ([], 0)) {v x u : V} (h : layR addedV p sp v x = (u, 0)) (hn : sp.1 ≠ []) (hl : sp.1.getLast? ≠ some [45]) :
    (changeR removedV sp u).2 = 0 ∧ ((getR sp v).2 = 3 → (changeR removedV sp u).1 = v) := by
  obtain ⟨h1, h2, h3, h4⟩ := lay_ok h
  rcases h4 with ⟨hp, rfl⟩ | ⟨h4, h5, h6⟩
  · rw [hsp hp] at hn; exact absurd rfl hn
  · obtain ⟨w, w1, w2⟩ := remove_add sp.1 v u (nice_of h2) hl h6
    have hg := remove_good h3 w1
    have e : changeR removedV sp u = (w, 0) := by
      unfold changeR
      rw [if_neg (by simp [h4]), if_neg (by simp [h5, h3]), w1]
      simp [hg]
    rw [e]
    refine ⟨rfl, fun he => w2 ?_⟩
    unfold getR at he
    rw [if_neg (by simp [h4]), if_neg (by simp [h2])] at he
    cases hq : getV sp.1 v with
    | none => rfl
    | some y => rw [hq] at he; simp at he
end Go.Proofs.YtmdemcjmcnfjmaaGreatDoor

/- What paired, find and Member of package json do. -/
import Derived.Test.YtmdemcjmcnfjmaaGreatDoorCz
set_option linter.unusedSimpArgs false
set_option linter.unusedVariables false
namespace Go.Proofs.YtmdemcjmcnfjmaaGreatDoor
open Go.RowKit

def pairedV (t : V) : Bool := decide (t.kind = 5) && decide (t.keys.length = t.l.length)
def idxL (key : List UInt8) : List (List UInt8) → Option Nat
  | [] => none
  | x :: xs => if x = key then some 0 else (idxL key xs).map (· + 1)
def findV (t : V) (key : List UInt8) : Option Nat := if pairedV t then idxL key t.keys else none
def memV (t : V) (key : List UInt8) : Option V := (findV t key).bind fun i => t.l[i]?
def optI : Option Nat → Int
  | none => -1
  | some n => n

theorem idxL_lt {key : List UInt8} {xs : List (List UInt8)} {i : Nat} (h : idxL key xs = some i) : i < xs.length ∧ xs[i]? = some key := by
  induction xs generalizing i with
  | nil => cases h
  | cons x xs ih =>
    simp only [idxL] at h
    split at h
    · rename_i e; cases h; simp [e]
    · rw [Option.map_eq_some_iff] at h
      obtain ⟨j, hj, rfl⟩ := h
      have := ih hj
      simpa using this
theorem idxS_eq (key : List UInt8) : ∀ (xs : List (List UInt8)) (i : Nat), Lib.idxFromS (xs.map fun l => (⟨l.toArray⟩ : ByteArray)) ⟨key.toArray⟩ i = optI ((idxL key xs).map (· + i))
  | [], i => rfl
  | x :: xs, i => by
    have ih := idxS_eq key xs (i + 1)
    simp only [List.map_cons, Lib.idxFromS, idxL]
    by_cases h : x = key
    · subst h; simp [optI]
    · rw [if_neg h]
      have e : ¬ ((⟨x.toArray⟩ : ByteArray) = ⟨key.toArray⟩) := by intro e; apply h; simpa using e
      rw [if_neg e, ih]
      cases idxL key xs with
      | none => rfl
      | some k => simp [optI]; omega

theorem StrsAre.form {w : World} {ok : Nat → Prop} {xs : List (List UInt8)} {v : Value} (h : StrsAre w ok xs v) : ∃ a c, v = .slice a xs.length c := by
  rcases h.2 with ⟨rfl, a, e⟩ | ⟨b, off, c, e, _⟩
  · exact ⟨_, _, e⟩
  · exact ⟨_, _, e⟩
theorem ValsAre.form {w : World} {ok : Nat → Prop} {R : V → Value → Prop} {xs : List V} {v : Value} (h : ValsAre w ok R xs v) : ∃ a c, v = .slice a xs.length c := by
  rcases h.2 with ⟨rfl, a, e⟩ | ⟨b, off, c, e, _⟩
  · exact ⟨_, _, e⟩
  · exact ⟨_, _, e⟩

set_option maxRecDepth 100000 in
set_option maxHeartbeats 400000 in
theorem paired_at (w : World) (ok : Nat → Prop) (d : Nat) (t : V) (v : Value) (h : VIs w ok d t v) :
    Calls Tryz.prog 115 #[v] w fun e w' => e = .returned (.bool (pairedV t)) ∧ Below w.heap.size w w' := by
  match d, h with
  | d + 1, h =>
    obtain ⟨ks, ls, rfl, h1, h2, h3, h4, h5⟩ := h
    obtain ⟨a1, c1, rfl⟩ := h4.form
    obtain ⟨a2, c2, rfl⟩ := h5.form
    have l1 := h4.1
    have l2 := h5.1
    unfold maxLen at l1 l2 h3
    unfold str
    clear h4 h5 h1 h2
    by_cases hk : t.kind = 5
    · by_cases hl : t.keys.length = t.l.length
      · have e1 : (t.kind == 5) = true := by simp [hk]
        have e2 : ((t.keys.length : Int) == (t.l.length : Int)) = true := by simp [hl]
        have F : Hid (pairedV t = true) := hidI (by simp [pairedV, hk, hl])
        clear hk hl
        go_enter Tryz.func115, Tryz.ntmps115
        go_wp2
        go_ret
        exact ⟨by rw [F.out]; rfl, (Below.refl _ w).alloc (Nat.le_refl _) _⟩
      · have e1 : (t.kind == 5) = true := by simp [hk]
        have e2 : ((t.keys.length : Int) == (t.l.length : Int)) = false := by rw [beq_eq_false_iff_ne]; omega
        have F : Hid (pairedV t = false) := hidI (by simp [pairedV, hl])
        clear hk hl
        go_enter Tryz.func115, Tryz.ntmps115
        go_wp2
        go_ret
        exact ⟨by rw [F.out]; rfl, (Below.refl _ w).alloc (Nat.le_refl _) _⟩
    · have e1 : (t.kind == 5) = false := by simp [hk]
      have F : Hid (pairedV t = false) := hidI (by simp [pairedV, hk])
      clear hk
      go_enter Tryz.func115, Tryz.ntmps115
      go_wp2
      go_ret
      exact ⟨by rw [F.out]; rfl, (Below.refl _ w).alloc (Nat.le_refl _) _⟩

theorem indexS_at (w : World) (ok : Nat → Prop) (xs : List (List UInt8)) (v : Value) (key : List UInt8) (h : StrsAre w ok xs v) :
    Calls Tryz.prog 116 #[v, str key] w fun e w' => e = .returned (.int .i64 (optI (idxL key xs))) ∧ w' = w := by
  obtain ⟨hm, h⟩ := h
  unfold maxLen at hm
  rcases h with ⟨rfl, a, rfl⟩ | ⟨b, off, c, rfl, h1, h2, h3⟩
  · exact Tryz.slices_Index_string_empty a 0 ⟨key.toArray⟩ w
  · refine (Tryz.slices_Index_string b off xs.length c (xs.map fun l => (⟨l.toArray⟩ : ByteArray)) ⟨key.toArray⟩ w (by simp) (by omega) ?_).mono ?_
    · intro j hj
      have hj' : j < xs.length := by simpa using hj
      have := (h3 j xs[j] (List.getElem?_eq_getElem hj')).2.2
      rw [this]
      simp [str, hj']
    · rintro e w' ⟨rfl, rfl⟩
      refine ⟨?_, rfl⟩
      have e1 : (xs.map fun l => (⟨l.toArray⟩ : ByteArray)).take xs.length = xs.map fun l => (⟨l.toArray⟩ : ByteArray) := List.take_of_length_le (by simp)
      rw [e1, Lib.idxOfS, idxS_eq]
      cases idxL key xs <;> rfl
theorem VIs.bel {w w' : World} {ok : Nat → Prop} {d : Nat} {t : V} {v : Value} (h : VIs w ok d t v) (hb : Below w.heap.size w w') : VIs w' ok d t v := h.grown (gb_below (r := none) hb) (by simp)
theorem StrsAre.bel {w w' : World} {ok : Nat → Prop} {xs : List (List UInt8)} {v : Value} (h : StrsAre w ok xs v) (hb : Below w.heap.size w w') : StrsAre w' ok xs v := h.imp (cells_grown (gb_below (r := none) hb) (by simp))

set_option maxRecDepth 100000 in
set_option maxHeartbeats 400000 in
theorem find_at (w : World) (ok : Nat → Prop) (d : Nat) (t : V) (v : Value) (key : List UInt8) (h : VIs w ok d t v) :
    Calls Tryz.prog 72 #[v, str key] w fun e w' => e = .returned (.int .i64 (optI (findV t key))) ∧ Below w.heap.size w w' := by
  have H := hidI h
  match d, h with
  | d + 1, h =>
    obtain ⟨ks, ls, rfl, h1, h2, h3, h4, h5⟩ := h
    have K4 := hidI h4
    obtain ⟨a1, c1, rfl⟩ := h4.form
    obtain ⟨a2, c2, rfl⟩ := h5.form
    have l1 := h4.1
    have l2 := h5.1
    unfold maxLen at l1 l2 h3
    unfold str
    clear h4 h5 h1 h2
    go_enter Tryz.func72, Tryz.ntmps72
    go_wp2_with fail
    refine (paired_at _ ok _ t _ (by exact H.out.bel (bel_alloc _ _))).mono ?_
    rintro e w1 ⟨rfl, hb1⟩
    have B1 := hidI hb1
    have e0 : w1.cell? ⟨w.heap.size, 3, none⟩ = some (.slice a1 t.keys.length c1) := by
      rw [World.cell?_of_block (hb1.block _ (by simp))]; simp
    clear hb1
    cases hp : pairedV t with
    | true =>
      have F : Hid (findV t key = idxL key t.keys) := hidI (by simp [findV, hp])
      go_wp2_with fail
      refine (indexS_at _ ok t.keys _ key (by exact K4.out.bel (bel_trans (bel_alloc _ _) B1.out))).mono ?_
      rintro e w2 ⟨rfl, rfl⟩
      go_wp2_with fail
      go_ret
      exact ⟨by rw [F.out]; rfl, bel_trans (bel_alloc _ _) B1.out⟩
    | false =>
      have F : Hid (findV t key = none) := hidI (by simp [findV, hp])
      go_wp2_with fail
      go_ret
      exact ⟨by rw [F.out]; rfl, bel_trans (bel_alloc _ _) B1.out⟩
end Go.Proofs.YtmdemcjmcnfjmaaGreatDoor

/- Members that are put into an object, and taken away. -/
import Derived.Test.YtmdemcjmcnfjmaaGreatDoorUp
set_option linter.unusedSimpArgs false
set_option linter.unusedVariables false
namespace Go.Proofs.YtmdemcjmcnfjmaaGreatDoor
open Go.RowKit

/- A member by its key, in a list of pairs. -/
def look (k : List UInt8) : List (List UInt8 × V) → Option V
  | [] => none
  | p :: ps => if p.1 = k then some p.2 else look k ps
theorem look_append (k : List UInt8) (a b : List (List UInt8 × V)) : look k (a ++ b) = (look k a).or (look k b) := by
  induction a with
  | nil => rfl
  | cons p a ih =>
    rw [List.cons_append, look, look]
    split
    · rfl
    · exact ih
theorem look_none {k : List UInt8} {ps : List (List UInt8 × V)} (h : ∀ p ∈ ps, p.1 ≠ k) : look k ps = none := by
  induction ps with
  | nil => rfl
  | cons p ps ih => rw [look, if_neg (h p (by simp)), ih fun q hq => h q (by simp [hq])]
theorem idx_look (k : List UInt8) : ∀ (ks : List (List UInt8)) (l : List V), ks.length = l.length → ((idxL k ks).bind fun i => l[i]?) = look k (ks.zip l)
  | [], l, _ => rfl
  | a :: ks, [], h => by simp at h
  | a :: ks, x :: l, h => by
    rw [idxL, List.zip_cons_cons, look]
    by_cases e : a = k
    · rw [if_pos e, if_pos e]; rfl
    · rw [if_neg e, if_neg e, ← idx_look k ks l (by simpa using h)]
      cases idxL k ks <;> simp
theorem memV_look {t : V} (h : pairedV t = true) (k : List UInt8) : memV t k = look k (t.keys.zip t.l) := by
  have hl : t.keys.length = t.l.length := by
    simp only [pairedV, Bool.and_eq_true, decide_eq_true_eq] at h; exact h.2
  rw [memV, findV, if_pos h, idx_look k _ _ hl]
theorem zip_split (ks : List (List UInt8)) (l : List V) (i : Nat) (h : ks.length = l.length) : ks.zip l = (ks.take i).zip (l.take i) ++ (ks.drop i).zip (l.drop i) := by
  rw [← List.zip_append (by simp [h]), List.take_append_drop, List.take_append_drop]
theorem zip_put (ks : List (List UInt8)) (l : List V) (i j : Nat) (k : List UInt8) (x : V) (h : ks.length = l.length) :
    (ks.take i ++ k :: ks.drop j).zip (l.take i ++ x :: l.drop j) = (ks.take i).zip (l.take i) ++ (k, x) :: (ks.drop j).zip (l.drop j) := by
  rw [List.zip_append (by simp [h]), List.zip_cons_cons]
theorem look_zip_none {k : List UInt8} {ks : List (List UInt8)} {l : List V} (h : k ∉ ks) : look k (ks.zip l) = none :=
  look_none fun p hp e => h (by rw [← e]; exact (List.of_mem_zip hp).1)
theorem rises_nodup {ks : List (List UInt8)} (h : Rises ks) : ks.Nodup := List.Pairwise.imp (fun h => less_ne h) h
theorem idxL_not {k : List UInt8} {ks : List (List UInt8)} (h : idxL k ks = none) : k ∉ ks := by
  induction ks with
  | nil => simp
  | cons a ks ih =>
    rw [idxL] at h
    split at h
    · cases h
    · rename_i hne
      simp only [Option.map_eq_none_iff] at h
      simp only [List.mem_cons, not_or]
      exact ⟨fun e => hne e.symm, ih h⟩
theorem drop_at {ks : List (List UInt8)} {i : Nat} {k : List UInt8} (h : ks[i]? = some k) : ks.drop i = k :: ks.drop (i + 1) := by
  obtain ⟨h1, h2⟩ := List.getElem?_eq_some_iff.1 h
  rw [List.drop_eq_getElem_cons h1, h2]
theorem split_at {ks : List (List UInt8)} {i : Nat} {k : List UInt8} (h : ks[i]? = some k) : ks = ks.take i ++ k :: ks.drop (i + 1) := by
  rw [← drop_at h, List.take_append_drop]

theorem with_paired {t : V} (h : pairedV t = true) (key : List UInt8) (x : V) : pairedV (withV t key x) = true := by
  have hl : t.keys.length = t.l.length := by
    simp only [pairedV, Bool.and_eq_true, decide_eq_true_eq] at h; exact h.2
  have hk : t.kind = 5 := by
    simp only [pairedV, Bool.and_eq_true, decide_eq_true_eq] at h; exact h.1
  unfold withV
  rw [if_pos h]
  cases hi : idxL key t.keys with
  | some i =>
    have := (idxL_lt hi).1
    simp only [pairedV, hk, decide_true, Bool.true_and, decide_eq_true_eq, List.length_append, List.length_take, List.length_cons, List.length_drop]
    omega
  | none =>
    simp only [pairedV, hk, decide_true, Bool.true_and, decide_eq_true_eq, List.length_append, List.length_take, List.length_cons, List.length_drop]
    omega
theorem mem_with {t : V} (h : pairedV t = true) (key : List UInt8) (x : V) : memV (withV t key x) key = some x := by
  have hl : t.keys.length = t.l.length := by
    simp only [pairedV, Bool.and_eq_true, decide_eq_true_eq] at h; exact h.2
  rw [memV_look (with_paired h key x)]
  unfold withV
  rw [if_pos h]
  cases hi : idxL key t.keys with
  | some i =>
    obtain ⟨h1, h2⟩ := idxL_lt hi
    simp only
    have e : (t.keys.zip (t.l.take i ++ x :: t.l.drop (i + 1))) = (t.keys.take i ++ key :: t.keys.drop (i + 1)).zip (t.l.take i ++ x :: t.l.drop (i + 1)) := by rw [← split_at h2]
    rw [e, zip_put _ _ _ _ _ _ hl, look_append]
    have : look key ((t.keys.take i).zip (t.l.take i)) = none := by
      have hm : (idxL key (t.keys.take i)) = none := by
        cases hq : idxL key (t.keys.take i) with
        | none => rfl
        | some j =>
          exfalso
          obtain ⟨g1, g2⟩ := idxL_lt hq
          have : idxL key t.keys = some j := by
            have e2 : ∀ (a b : List (List UInt8)) (j : Nat), idxL key a = some j → idxL key (a ++ b) = some j := by
              intro a
              induction a with
              | nil => intro b j h; cases h
              | cons c a ih =>
                intro b j h
                rw [idxL] at h
                rw [List.cons_append, idxL]
                split at h
                · rename_i hc; rw [if_pos hc]; exact h
                · rename_i hc
                  rw [if_neg hc]
                  simp only [Option.map_eq_some_iff] at h ⊢
                  obtain ⟨m, hm, rfl⟩ := h
                  exact ⟨m, ih b m hm, rfl⟩
            have := e2 (t.keys.take i) (t.keys.drop i) j hq
            rwa [List.take_append_drop] at this
          rw [hi] at this
          cases this
          simp at g1
          omega
      exact look_zip_none (idxL_not hm)
    rw [this, look, if_pos rfl]; rfl
  | none =>
    simp only
    rw [zip_put _ _ _ _ _ _ hl, look_append]
    have hn := idxL_not hi
    rw [look_zip_none (fun hm => hn (List.mem_of_mem_take hm)), look, if_pos rfl]; rfl
theorem mem_other {t : V} (h : pairedV t = true) (key other : List UInt8) (x : V) (hne : other ≠ key) : memV (withV t key x) other = memV t other := by
  have hl : t.keys.length = t.l.length := by
    simp only [pairedV, Bool.and_eq_true, decide_eq_true_eq] at h; exact h.2
  rw [memV_look (with_paired h key x), memV_look h]
  unfold withV
  rw [if_pos h]
  cases hi : idxL key t.keys with
  | some i =>
    obtain ⟨h1, h2⟩ := idxL_lt hi
    simp only
    have e : (t.keys.zip (t.l.take i ++ x :: t.l.drop (i + 1))) = (t.keys.take i ++ key :: t.keys.drop (i + 1)).zip (t.l.take i ++ x :: t.l.drop (i + 1)) := by rw [← split_at h2]
    rw [e, zip_put _ _ _ _ _ _ hl, look_append, look, if_neg (fun e => hne e.symm), zip_split t.keys t.l i hl, look_append]
    congr 1
    have hli : i < t.l.length := by omega
    rw [drop_at h2, List.drop_eq_getElem_cons hli, List.zip_cons_cons, look, if_neg (fun e => hne e.symm)]
  | none =>
    simp only
    rw [zip_put _ _ _ _ _ _ hl, look_append, look, if_neg (fun e => hne e.symm), zip_split t.keys t.l (insV key t.keys) hl, look_append]
theorem with_nodup {t : V} (h : pairedV t = true) (hd : t.keys.Nodup) (key : List UInt8) (x : V) : (withV t key x).keys.Nodup := by
  unfold withV
  rw [if_pos h]
  cases hi : idxL key t.keys with
  | some i => exact hd
  | none =>
    simp only
    have hn := idxL_not hi
    rw [← List.take_append_drop (insV key t.keys) t.keys] at hd hn
    simp only [List.mem_append, not_or] at hn
    rw [List.nodup_append] at hd ⊢
    refine ⟨hd.1, List.nodup_cons.2 ⟨?_, hd.2.1⟩, ?_⟩
    · intro hm; exact hn.2 hm
    · intro a ha b hb
      rcases List.mem_cons.1 hb with rfl | hb
      · rintro rfl; exact hn.1 ha
      · exact hd.2.2 a ha b hb
theorem mem_without {t : V} (h : pairedV t = true) (hd : t.keys.Nodup) (key : List UInt8) : memV (withoutV t key) key = none := by
  have hl : t.keys.length = t.l.length := by
    simp only [pairedV, Bool.and_eq_true, decide_eq_true_eq] at h; exact h.2
  have hk : t.kind = 5 := by
    simp only [pairedV, Bool.and_eq_true, decide_eq_true_eq] at h; exact h.1
  unfold withoutV
  cases hf : findV t key with
  | none => simp only [memV, hf]; rfl
  | some i =>
    have hi : idxL key t.keys = some i := by rw [findV, if_pos h] at hf; exact hf
    obtain ⟨h1, h2⟩ := idxL_lt hi
    simp only
    have hp : pairedV { t with keys := t.keys.take i ++ t.keys.drop (i + 1), l := t.l.take i ++ t.l.drop (i + 1) } = true := by
      simp only [pairedV, hk, decide_true, Bool.true_and, decide_eq_true_eq, List.length_append, List.length_take, List.length_drop]
      omega
    rw [memV_look hp]
    simp only
    refine look_zip_none ?_
    rw [split_at h2] at hd
    rw [List.nodup_append] at hd
    simp only [List.mem_append, not_or]
    refine ⟨fun hm => hd.2.2 key hm key (by simp) rfl, ?_⟩
    exact (List.nodup_cons.1 hd.2.1).1
theorem gfold_len {D : Nat} (l : List V) : ∀ (r p : Int), 0 ≤ r → gfold D l r = (true, p) → (l.length : Int) ≤ r - p ∧ 0 ≤ p := by
  induction l with
  | nil =>
    intro r p hr h
    simp only [gfold, List.foldl_nil, Prod.mk.injEq, true_and] at h
    subst h
    simp only [List.length_nil]; omega
  | cons x l ih =>
    intro r p hr h
    obtain ⟨q, h1, h2⟩ := gfold_cons h
    have hq : 0 ≤ q := by
      have := (goodS_room D x r hr).2.2 (by rw [h1])
      rw [h1] at this; exact this
    have hq2 : q ≤ r - 1 := by
      obtain ⟨D', rfl, -, h0, hf⟩ := goodS_succ h1
      have := (fold_room (goodS_room D') x.l (r - 1) h0).2.1
      unfold gfold at hf
      rw [hf] at this; exact this
    obtain ⟨g1, g2⟩ := ih q p hq h2
    simp only [List.length_cons]
    omega
theorem good_items {t : V} (h : goodV t = true) : t.l.length ≤ 120 := by
  have e : goodS 12 t 120 = (true, (goodS 12 t 120).2) := by unfold goodV at h; rw [← h]
  obtain ⟨D', -, -, h0, hf⟩ := goodS_succ e
  obtain ⟨g1, g2⟩ := gfold_len t.l _ _ h0 hf
  omega
theorem good_object {t : V} (h : goodV t = true) (hk : t.kind = 5) : pairedV t = true ∧ t.keys.Nodup := by
  have hs := (goodV_tree h).1
  unfold shapedB at hs
  rw [hk] at hs
  simp only [Int.reduceEq, if_false, if_true, Bool.and_eq_true, decide_eq_true_eq] at hs
  obtain ⟨⟨⟨-, -⟩, a3⟩, a4⟩ := hs
  exact ⟨by simp [pairedV, hk, a3], rises_nodup (rise_pair _ _ a4).2.1⟩
theorem with_items (t : V) (key : List UInt8) (x : V) : (withV t key x).l.length ≤ t.l.length + 1 := by
  unfold withV
  split
  · cases hi : idxL key t.keys with
    | some i => simp only [List.length_append, List.length_take, List.length_cons, List.length_drop]; omega
    | none => simp only [List.length_append, List.length_take, List.length_cons, List.length_drop]; omega
  · omega
end Go.Proofs.YtmdemcjmcnfjmaaGreatDoor

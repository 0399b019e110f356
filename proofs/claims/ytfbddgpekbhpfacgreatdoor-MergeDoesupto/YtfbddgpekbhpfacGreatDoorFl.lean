/- What merged and differ of the reference make, plainly. -/
import Derived.Test.YtfbddgpekbhpfacGreatDoorMa
set_option linter.unusedSimpArgs false
set_option linter.unusedVariables false
namespace Go.Proofs.YtfbddgpekbhpfacGreatDoor
open Go.RowKit
/- What merged and differ of the reference make, plainly. -/
def stepK (p out : V) (q : List UInt8 × V) : V := if (memV p q.1).isSome then out else withV out q.1 q.2
def stepN (f : V → V → V) (v out : V) (q : List UInt8 × V) : V := if q.2.kind = 0 then out else withV out q.1 (f ((memV v q.1).getD zeroT) q.2)
theorem stepK_ob (p v : V) (q : List UInt8 × V) (h : Ob v) : Ob (stepK p v q) := by
  unfold stepK
  split
  · exact h
  · exact ob_with h _ _
theorem stepK_far (p v : V) (q : List UInt8 × V) (k : List UInt8) (h : Ob v) (hk : k ≠ q.1) : memV (stepK p v q) k = memV v k := by
  unfold stepK
  split
  · rfl
  · exact mem_other h.paired _ _ _ hk
theorem stepK_at (p v : V) (q : List UInt8 × V) (h : Ob v) : memV (stepK p v q) q.1 = if (memV p q.1).isSome then memV v q.1 else some q.2 := by
  unfold stepK
  split
  · rfl
  · exact mem_with h.paired _ _
theorem stepN_ob (f : V → V → V) (v o : V) (q : List UInt8 × V) (h : Ob o) : Ob (stepN f v o q) := by
  unfold stepN
  split
  · exact h
  · exact ob_with h _ _
theorem stepN_far (f : V → V → V) (v o : V) (q : List UInt8 × V) (k : List UInt8) (h : Ob o) (hk : k ≠ q.1) : memV (stepN f v o q) k = memV o k := by
  unfold stepN
  split
  · rfl
  · exact mem_other h.paired _ _ _ hk
theorem stepN_at (f : V → V → V) (v o : V) (q : List UInt8 × V) (h : Ob o) : memV (stepN f v o q) q.1 = if q.2.kind = 0 then memV o q.1 else some (f ((memV v q.1).getD zeroT) q.2) := by
  unfold stepN
  split
  · rfl
  · exact mem_with h.paired _ _
theorem foldK_len (p : V) : ∀ (ps : List (List UInt8 × V)) (v : V), (ps.foldl (stepK p) v).l.length ≤ v.l.length + ps.length
  | [], _ => by simp
  | q :: ps, v => by
    rw [List.foldl_cons]
    have h1 := foldK_len p ps (stepK p v q)
    have h2 : (stepK p v q).l.length ≤ v.l.length + 1 := by
      unfold stepK
      split
      · omega
      · exact with_items v _ _
    simp only [List.length_cons]; omega
theorem foldN_len (f : V → V → V) (o : V) : ∀ (ps : List (List UInt8 × V)) (v : V), (ps.foldl (stepN f o) v).l.length ≤ v.l.length + ps.length
  | [], _ => by simp
  | q :: ps, v => by
    rw [List.foldl_cons]
    have h1 := foldN_len f o ps (stepN f o v q)
    have h2 : (stepN f o v q).l.length ≤ v.l.length + 1 := by
      unfold stepN
      split
      · omega
      · exact with_items v _ _
    simp only [List.length_cons]; omega
/- What is kept of v. -/
def keptV (v p : V) : V := if v.kind = 5 then (v.keys.zip v.l).foldl (stepK p) objT else objT
theorem kept_ob (v p : V) : Ob (keptV v p) := by
  unfold keptV
  split
  · exact fold_ob (stepK_ob p) _ _ ob_objT
  · exact ob_objT
theorem kept_mem {v p : V} (hv : v.kind = 5 → Ob v) (k : List UInt8) : memV (keptV v p) k = if (memV p k).isSome then none else memV (objOf v) k := by
  unfold keptV objOf
  by_cases h : v.kind = 5
  · rw [if_pos h, if_pos h, fold_mem (F := fun k x m => if (memV p k).isSome then m else some x) (stepK_ob p) (stepK_far p) (stepK_at p) k _ _ ob_objT (ob_nodup (hv h)), ← memV_look (hv h).paired, mem_objT]
    cases memV v k <;> simp
  · rw [if_neg h, if_neg h, mem_objT]; simp
theorem rmerge_eq {E : Nat} {v p : V} (op : Ob p) (hv : v.kind = 5 → Ob v) : (p.keys.zip p.l).foldl (stepN (mergeF E) v) (keptV v p) = mergeF (E + 1) v p := by
  refine ob_ext (fold_ob (stepN_ob _ _) _ _ (kept_ob v p)) (merge_ob op.1 hv) fun k => ?_
  rw [merge_mem op hv k, fold_mem (F := fun k x m => if x.kind = 0 then m else some (mergeF E ((memV v k).getD zeroT) x)) (stepN_ob _ _) (stepN_far _ _) (stepN_at _ _) k _ _ (kept_ob v p) (ob_nodup op), ← memV_look op.paired, kept_mem hv]
  have e : memV (objOf v) k = memV v k := by
    unfold objOf; split
    · rfl
    · rename_i h; simp [memV, findV, pairedV, h, objT, idxL]
  cases hm : memV p k with
  | none => simp
  | some x => simp [e]
/- differ: key by key of both. -/
open Classical in
noncomputable def stepF (f : V → V → V) (a b out : V) (k : List UInt8) : V :=
  match memV b k with
  | none => withV out k zeroT
  | some y => match memV a k with
    | none => withV out k y
    | some x => if x = y then out else withV out k (f x y)
theorem stepF_ob (f : V → V → V) (a b o : V) (k : List UInt8) (h : Ob o) : Ob (stepF f a b o k) := by
  unfold stepF
  split
  · exact ob_with h _ _
  · split
    · exact ob_with h _ _
    · split
      · exact h
      · exact ob_with h _ _
theorem stepF_len (f : V → V → V) (a b o : V) (k : List UInt8) : (stepF f a b o k).l.length ≤ o.l.length + 1 := by
  unfold stepF
  split
  · exact with_items o _ _
  · split
    · exact with_items o _ _
    · split
      · omega
      · exact with_items o _ _
theorem foldF_ob (f : V → V → V) (a b : V) : ∀ (ks : List (List UInt8)) (o : V), Ob o → Ob (ks.foldl (stepF f a b) o)
  | [], _, h => h
  | k :: ks, o, h => foldF_ob f a b ks _ (stepF_ob f a b o k h)
theorem foldF_len (f : V → V → V) (a b : V) : ∀ (ks : List (List UInt8)) (o : V), (ks.foldl (stepF f a b) o).l.length ≤ o.l.length + ks.length
  | [], _ => by simp
  | k :: ks, o => by
    rw [List.foldl_cons]
    have h1 := foldF_len f a b ks (stepF f a b o k)
    have h2 := stepF_len f a b o k
    simp only [List.length_cons]; omega
open Classical in
/- What a key brings. -/
noncomputable def bringF (f : V → V → V) (a b : V) (k : List UInt8) : Option V :=
  match memV b k with
  | none => some zeroT
  | some y => match memV a k with
    | none => some y
    | some x => if x = y then none else some (f x y)
theorem stepF_at (f : V → V → V) (a b o : V) (k : List UInt8) (h : Ob o) (ho : memV o k = none ∨ memV o k = bringF f a b k) : memV (stepF f a b o k) k = bringF f a b k := by
  unfold stepF bringF
  unfold bringF at ho
  cases hb : memV b k with
  | none => exact mem_with h.paired _ _
  | some y =>
    rw [hb] at ho
    cases ha : memV a k with
    | none => exact mem_with h.paired _ _
    | some x =>
      rw [ha] at ho
      simp only at ho ⊢
      by_cases e : x = y
      · simp only [if_pos e] at ho ⊢
        exact ho.elim id id
      · simp only [if_neg e]
        exact mem_with h.paired _ _
theorem stepF_far (f : V → V → V) (a b o : V) (k k' : List UInt8) (h : Ob o) (hk : k' ≠ k) : memV (stepF f a b o k) k' = memV o k' := by
  unfold stepF
  split
  · exact mem_other h.paired _ _ _ hk
  · split
    · exact mem_other h.paired _ _ _ hk
    · split
      · rfl
      · exact mem_other h.paired _ _ _ hk
theorem foldF_mem (f : V → V → V) (a b : V) (k : List UInt8) : ∀ (ks : List (List UInt8)) (o : V), Ob o → (memV o k = none ∨ memV o k = bringF f a b k) →
    memV (ks.foldl (stepF f a b) o) k = if k ∈ ks then bringF f a b k else memV o k
  | [], o, _, _ => by simp
  | c :: ks, o, h, ho => by
    rw [List.foldl_cons]
    by_cases e : k = c
    · subst e
      have h1 := stepF_at f a b o k h ho
      rw [foldF_mem f a b k ks _ (stepF_ob f a b o k h) (.inr h1), h1]
      simp
    · have h1 := stepF_far f a b o c k h e
      rw [foldF_mem f a b k ks _ (stepF_ob f a b o c h) (by rw [h1]; exact ho), h1]
      simp [e]
theorem key_some {t : V} (h : Ob t) (k : List UInt8) : k ∈ t.keys ↔ (memV t k).isSome := by
  rw [memV_look h.paired]
  constructor
  · intro hk
    have : k ∈ (t.keys.zip t.l).map Prod.fst := by rw [List.map_fst_zip (by have := h.2.2.2.1; omega)]; exact hk
    rw [List.mem_map] at this
    obtain ⟨q, hq, rfl⟩ := this
    cases hl : look q.1 (t.keys.zip t.l) with
    | none => exact absurd rfl (look_key hl q hq)
    | some x => rfl
  · intro hs
    rw [Option.isSome_iff_exists] at hs
    obtain ⟨x, hx⟩ := hs
    exact (List.of_mem_zip (look_mem hx)).1
theorem rdiff_eq {E : Nat} {a b : V} (oa : Ob a) (ob : Ob b) : (a.keys ++ b.keys).foldl (stepF (diffF E) a b) objT = diffF (E + 1) a b := by
  refine ob_ext (foldF_ob _ a b _ _ ob_objT) (diff_ob oa.1 ob.1) fun k => ?_
  rw [foldF_mem _ a b k _ _ ob_objT (.inl (mem_objT k)), diff_mem oa ob k, mem_objT]
  simp only [List.mem_append, key_some oa, key_some ob]
  unfold bringF
  cases hb : memV b k with
  | none => cases ha : memV a k <;> simp
  | some y => cases ha : memV a k <;> simp
end Go.Proofs.YtfbddgpekbhpfacGreatDoor

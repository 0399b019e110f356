/- A region of two pushes into an object that is being made: what it keeps. -/
import Derived.Test.YtfbddgpekbhpfacGreatDoorGMc
import Derived.Test.YtfbddgpekbhpfacGreatDoorGMd
import Derived.Maps.AppendAt
import Derived.Laws.AppendOwnNone
import Derived.Test.YtfbddgpekbhpfacGreatDoorTp
import Derived.Deep.DrawnRows
import Derived.Deep.RegionHeld3
/- What merged and differ of the reference make, plainly. -/
set_option linter.unusedSimpArgs false
set_option linter.unusedVariables false
namespace Go.Proofs.YtfbddgpekbhpfacGreatDoor
open Go.RowKit
/- What merged and differ of the reference make, plainly. -/
def stepK (p out : V) (q : List UInt8 × V) : V := if (memV p q.1).isSome then out else withV out q.1 q.2
def stepN (f : V → V → V) (v out : V) (q : List UInt8 × V) : V := if q.2.kind = 0 then out else withV out q.1 (f ((memV v q.1).getD zeroT) q.2)
theorem stepK_ob (p v : V) (q : List UInt8 × V) (h : Ob v) : Ob (stepK p v q) := by
  unfold stepK
  split
  · exact h
  · exact ob_with h _ _
theorem stepK_far (p v : V) (q : List UInt8 × V) (k : List UInt8) (h : Ob v) (hk : k ≠ q.1) : memV (stepK p v q) k = memV v k := by
  unfold stepK
  split
  · rfl
  · exact mem_other h.paired _ _ _ hk
theorem stepK_at (p v : V) (q : List UInt8 × V) (h : Ob v) : memV (stepK p v q) q.1 = if (memV p q.1).isSome then memV v q.1 else some q.2 := by
  unfold stepK
  split
  · rfl
  · exact mem_with h.paired _ _
theorem stepN_ob (f : V → V → V) (v o : V) (q : List UInt8 × V) (h : Ob o) : Ob (stepN f v o q) := by
  unfold stepN
  split
  · exact h
  · exact ob_with h _ _
theorem stepN_far (f : V → V → V) (v o : V) (q : List UInt8 × V) (k : List UInt8) (h : Ob o) (hk : k ≠ q.1) : memV (stepN f v o q) k = memV o k := by
  unfold stepN
  split
  · rfl
  · exact mem_other h.paired _ _ _ hk
theorem stepN_at (f : V → V → V) (v o : V) (q : List UInt8 × V) (h : Ob o) : memV (stepN f v o q) q.1 = if q.2.kind = 0 then memV o q.1 else some (f ((memV v q.1).getD zeroT) q.2) := by
  unfold stepN
  split
  · rfl
  · exact mem_with h.paired _ _
theorem foldK_len (p : V) : ∀ (ps : List (List UInt8 × V)) (v : V), (ps.foldl (stepK p) v).l.length ≤ v.l.length + ps.length
  | [], _ => by simp
  | q :: ps, v => by
    rw [List.foldl_cons]
    have h1 := foldK_len p ps (stepK p v q)
    have h2 : (stepK p v q).l.length ≤ v.l.length + 1 := by
      unfold stepK
      split
      · omega
      · exact with_items v _ _
    simp only [List.length_cons]; omega
theorem foldN_len (f : V → V → V) (o : V) : ∀ (ps : List (List UInt8 × V)) (v : V), (ps.foldl (stepN f o) v).l.length ≤ v.l.length + ps.length
  | [], _ => by simp
  | q :: ps, v => by
    rw [List.foldl_cons]
    have h1 := foldN_len f o ps (stepN f o v q)
    have h2 : (stepN f o v q).l.length ≤ v.l.length + 1 := by
      unfold stepN
      split
      · omega
      · exact with_items v _ _
    simp only [List.length_cons]; omega
/- What is kept of v. -/
def keptV (v p : V) : V := if v.kind = 5 then (v.keys.zip v.l).foldl (stepK p) objT else objT
theorem kept_ob (v p : V) : Ob (keptV v p) := by
  unfold keptV
  split
  · exact fold_ob (stepK_ob p) _ _ ob_objT
  · exact ob_objT
theorem kept_mem {v p : V} (hv : v.kind = 5 → Ob v) (k : List UInt8) : memV (keptV v p) k = if (memV p k).isSome then none else memV (objOf v) k := by
  unfold keptV objOf
  by_cases h : v.kind = 5
  · rw [if_pos h, if_pos h, fold_mem (F := fun k x m => if (memV p k).isSome then m else some x) (stepK_ob p) (stepK_far p) (stepK_at p) k _ _ ob_objT (ob_nodup (hv h)), ← memV_look (hv h).paired, mem_objT]
    cases memV v k <;> simp
  · rw [if_neg h, if_neg h, mem_objT]; simp
theorem rmerge_eq {E : Nat} {v p : V} (op : Ob p) (hv : v.kind = 5 → Ob v) : (p.keys.zip p.l).foldl (stepN (mergeF E) v) (keptV v p) = mergeF (E + 1) v p := by
  refine ob_ext (fold_ob (stepN_ob _ _) _ _ (kept_ob v p)) (merge_ob op.1 hv) fun k => ?_
  rw [merge_mem op hv k, fold_mem (F := fun k x m => if x.kind = 0 then m else some (mergeF E ((memV v k).getD zeroT) x)) (stepN_ob _ _) (stepN_far _ _) (stepN_at _ _) k _ _ (kept_ob v p) (ob_nodup op), ← memV_look op.paired, kept_mem hv]
  have e : memV (objOf v) k = memV v k := by
    unfold objOf; split
    · rfl
    · rename_i h; simp [memV, findV, pairedV, h, objT, idxL]
  cases hm : memV p k with
  | none => simp
  | some x => simp [e]
/- differ: key by key of both. -/
open Classical in
noncomputable def stepF (f : V → V → V) (a b out : V) (k : List UInt8) : V :=
  match memV b k with
  | none => withV out k zeroT
  | some y => match memV a k with
    | none => withV out k y
    | some x => if x = y then out else withV out k (f x y)
theorem stepF_ob (f : V → V → V) (a b o : V) (k : List UInt8) (h : Ob o) : Ob (stepF f a b o k) := by
  unfold stepF
  split
  · exact ob_with h _ _
  · split
    · exact ob_with h _ _
    · split
      · exact h
      · exact ob_with h _ _
theorem stepF_len (f : V → V → V) (a b o : V) (k : List UInt8) : (stepF f a b o k).l.length ≤ o.l.length + 1 := by
  unfold stepF
  split
  · exact with_items o _ _
  · split
    · exact with_items o _ _
    · split
      · omega
      · exact with_items o _ _
theorem foldF_ob (f : V → V → V) (a b : V) : ∀ (ks : List (List UInt8)) (o : V), Ob o → Ob (ks.foldl (stepF f a b) o)
  | [], _, h => h
  | k :: ks, o, h => foldF_ob f a b ks _ (stepF_ob f a b o k h)
theorem foldF_len (f : V → V → V) (a b : V) : ∀ (ks : List (List UInt8)) (o : V), (ks.foldl (stepF f a b) o).l.length ≤ o.l.length + ks.length
  | [], _ => by simp
  | k :: ks, o => by
    rw [List.foldl_cons]
    have h1 := foldF_len f a b ks (stepF f a b o k)
    have h2 := stepF_len f a b o k
    simp only [List.length_cons]; omega
open Classical in
/- What a key brings. -/
noncomputable def bringF (f : V → V → V) (a b : V) (k : List UInt8) : Option V :=
  match memV b k with
  | none => some zeroT
  | some y => match memV a k with
    | none => some y
    | some x => if x = y then none else some (f x y)
theorem stepF_at (f : V → V → V) (a b o : V) (k : List UInt8) (h : Ob o) (ho : memV o k = none ∨ memV o k = bringF f a b k) : memV (stepF f a b o k) k = bringF f a b k := by
  unfold stepF bringF
  unfold bringF at ho
  cases hb : memV b k with
  | none => exact mem_with h.paired _ _
  | some y =>
    rw [hb] at ho
    cases ha : memV a k with
    | none => exact mem_with h.paired _ _
    | some x =>
      rw [ha] at ho
      simp only at ho ⊢
      by_cases e : x = y
      · simp only [if_pos e] at ho ⊢
        exact ho.elim id id
      · simp only [if_neg e]
        exact mem_with h.paired _ _
theorem stepF_far (f : V → V → V) (a b o : V) (k k' : List UInt8) (h : Ob o) (hk : k' ≠ k) : memV (stepF f a b o k) k' = memV o k' := by
  unfold stepF
  split
  · exact mem_other h.paired _ _ _ hk
  · split
    · exact mem_other h.paired _ _ _ hk
    · split
      · rfl
      · exact mem_other h.paired _ _ _ hk
theorem foldF_mem (f : V → V → V) (a b : V) (k : List UInt8) : ∀ (ks : List (List UInt8)) (o : V), Ob o → (memV o k = none ∨ memV o k = bringF f a b k) →
    memV (ks.foldl (stepF f a b) o) k = if k ∈ ks then bringF f a b k else memV o k
  | [], o, _, _ => by simp
  | c :: ks, o, h, ho => by
    rw [List.foldl_cons]
    by_cases e : k = c
    · subst e
      have h1 := stepF_at f a b o k h ho
      rw [foldF_mem f a b k ks _ (stepF_ob f a b o k h) (.inr h1), h1]
      simp
    · have h1 := stepF_far f a b o c k h e
      rw [foldF_mem f a b k ks _ (stepF_ob f a b o c h) (by rw [h1]; exact ho), h1]
      simp [e]
theorem key_some {t : V} (h : Ob t) (k : List UInt8) : k ∈ t.keys ↔ (memV t k).isSome := by
  rw [memV_look h.paired]
  constructor
  · intro hk
    have : k ∈ (t.keys.zip t.l).map Prod.fst := by rw [List.map_fst_zip (by have := h.2.2.2.1; omega)]; exact hk
    rw [List.mem_map] at this
    obtain ⟨q, hq, rfl⟩ := this
    cases hl : look q.1 (t.keys.zip t.l) with
    | none => exact absurd rfl (look_key hl q hq)
    | some x => rfl
  · intro hs
    rw [Option.isSome_iff_exists] at hs
    obtain ⟨x, hx⟩ := hs
    exact (List.of_mem_zip (look_mem hx)).1
theorem rdiff_eq {E : Nat} {a b : V} (oa : Ob a) (ob : Ob b) : (a.keys ++ b.keys).foldl (stepF (diffF E) a b) objT = diffF (E + 1) a b := by
  refine ob_ext (foldF_ob _ a b _ _ ob_objT) (diff_ob oa.1 ob.1) fun k => ?_
  rw [foldF_mem _ a b k _ _ ob_objT (.inl (mem_objT k)), diff_mem oa ob k, mem_objT]
  simp only [List.mem_append, key_some oa, key_some ob]
  unfold bringF
  cases hb : memV b k with
  | none => cases ha : memV a k <;> simp
  | some y => cases ha : memV a k <;> simp
end Go.Proofs.YtfbddgpekbhpfacGreatDoor

/- Depth, number and form of values, as the reference tells them; what is good. -/
set_option linter.unusedSimpArgs false
set_option linter.unusedVariables false
namespace Go.Proofs.YtfbddgpekbhpfacGreatDoor
open Go.RowKit

/- The greatest of a list. -/
def top (l : List Nat) : Nat := l.foldr max 0
def dpt : V → Nat
  | ⟨_, _, _, _, l⟩ => top (l.map dpt) + 1
def dpts (xs : List V) : Nat := top (xs.map dpt)
theorem dpts_nil : dpts [] = 0 := rfl
theorem dpts_cons (x : V) (xs : List V) : dpts (x :: xs) = max (dpt x) (dpts xs) := by simp [dpts, top]
def shp : V → Bool
  | ⟨k, n, s, ks, l⟩ => shapedB ⟨k, n, s, ks, l⟩ && (l.map shp).all id
def shps (xs : List V) : Bool := (xs.map shp).all id
theorem shps_nil : shps [] = true := rfl
theorem shps_cons (x : V) (xs : List V) : shps (x :: xs) = (shp x && shps xs) := by simp [shps]
theorem dpt_eq (t : V) : dpt t = dpts t.l + 1 := by cases t; rw [dpt]; rfl
theorem shp_eq (t : V) : shp t = (shapedB t && shps t.l) := by cases t; rw [shp]; rfl
theorem dpts_snoc (x : V) : ∀ (xs : List V), dpts (xs ++ [x]) = max (dpts xs) (dpt x)
  | [] => by simp [dpts_nil, dpts_cons]
  | y :: xs => by rw [List.cons_append, dpts_cons, dpts_cons, dpts_snoc x xs]; omega
theorem cnts_snoc (x : V) : ∀ (xs : List V), cnts (xs ++ [x]) = cnts xs + cnt x
  | [] => by simp [cnts_nil, cnts_cons]
  | y :: xs => by rw [List.cons_append, cnts_cons, cnts_cons, cnts_snoc x xs]; omega
theorem shps_snoc (x : V) : ∀ (xs : List V), shps (xs ++ [x]) = (shps xs && shp x)
  | [] => by simp [shps_nil, shps_cons]
  | y :: xs => by rw [List.cons_append, shps_cons, shps_cons, shps_snoc x xs, Bool.and_assoc]
theorem take_snocV {xs : List V} {k : Nat} (h : k < xs.length) : xs.take (k + 1) = xs.take k ++ [xs[k]] := List.take_succ_eq_append_getElem h
theorem cnts_take {xs : List V} (k : Nat) : cnts (xs.take k) ≤ cnts xs := by
  induction xs generalizing k with
  | nil => simp [cnts_nil]
  | cons x xs ih =>
    cases k with
    | zero => simp [cnts_nil]
    | succ k => rw [List.take_succ_cons, cnts_cons, cnts_cons]; have := ih k; omega
theorem dpts_mem {xs : List V} {x : V} (h : x ∈ xs) : dpt x ≤ dpts xs := by
  induction xs with
  | nil => cases h
  | cons y xs ih =>
    rw [dpts_cons]
    rcases List.mem_cons.1 h with rfl | h
    · omega
    · have := ih h; omega
theorem dpts_le {xs : List V} {D : Nat} (h : ∀ x ∈ xs, dpt x ≤ D) : dpts xs ≤ D := by
  induction xs with
  | nil => simp [dpts_nil]
  | cons y xs ih =>
    rw [dpts_cons]
    have h1 := h y (by simp)
    have h2 := ih fun x hx => h x (by simp [hx])
    omega
theorem shps_iff {xs : List V} : shps xs = true ↔ ∀ x ∈ xs, shp x = true := by
  induction xs with
  | nil => simp [shps_nil]
  | cons y xs ih => rw [shps_cons, Bool.and_eq_true, ih]; simp
theorem dpts_cnt_of : ∀ (l : List V), (∀ x ∈ l, dpt x ≤ cnt x) → dpts l ≤ cnts l
  | [], _ => by simp [dpts_nil, cnts_nil]
  | x :: l, h => by
    rw [dpts_cons, cnts_cons]
    have h1 := h x (by simp)
    have h2 := dpts_cnt_of l fun y hy => h y (by simp [hy])
    omega
theorem dpt_cnt : ∀ (t : V), dpt t ≤ cnt t
  | ⟨k, n, s, ks, l⟩ => by
    rw [dpt_eq, cnt_eq]
    have h : ∀ x ∈ l, dpt x ≤ cnt x := fun x hx => dpt_cnt x
    have := dpts_cnt_of l h
    simp only
    omega
theorem dpts_cnt (l : List V) : dpts l ≤ cnts l := dpts_cnt_of l fun x _ => dpt_cnt x
theorem goodT_iff (D : Nat) : ∀ (t : V), GoodT D t ↔ shp t = true ∧ dpt t ≤ D := by
  induction D with
  | zero => intro t; rw [dpt_eq]; simp [GoodT]
  | succ D ih =>
    intro t
    rw [shp_eq, dpt_eq, Bool.and_eq_true, shps_iff]
    constructor
    · rintro ⟨h1, h2⟩
      refine ⟨⟨h1, fun x hx => ((ih x).1 (h2 x hx)).1⟩, ?_⟩
      have := dpts_le (D := D) fun x hx => ((ih x).1 (h2 x hx)).2
      omega
    · rintro ⟨⟨h1, h2⟩, h3⟩
      exact ⟨h1, fun x hx => (ih x).2 ⟨h2 x hx, by have := dpts_mem hx; omega⟩⟩
/- What GoodValue answers is what Good answers. -/
theorem good_ref (t : V) : (decide (dpt t ≤ 12) && decide (cnt t ≤ 120) && shp t) = goodV t := by
  rw [Bool.eq_iff_iff, good_iff, goodT_iff]
  simp only [Bool.and_eq_true, decide_eq_true_eq]
  constructor
  · rintro ⟨⟨h1, h2⟩, h3⟩
    exact ⟨⟨h3, h1⟩, by rw [← cnt_sz 12 t ((goodT_iff 12 t).2 ⟨h3, h1⟩)]; exact h2⟩
  · rintro ⟨⟨h3, h1⟩, h2⟩
    exact ⟨⟨h1, by rw [cnt_sz 12 t ((goodT_iff 12 t).2 ⟨h3, h1⟩)]; exact h2⟩, h3⟩
end Go.Proofs.YtfbddgpekbhpfacGreatDoor

/- A list of texts, copied: append onto nil. -/
set_option linter.unusedSimpArgs false
set_option linter.unusedVariables false
namespace Go.Proofs.YtfbddgpekbhpfacGreatDoor
open Go.RowKit

theorem run_nil_nil (W : World) (ty : TypeId) : (Builtin.append_ #[22, 22] ty #[.slice none 0 0, .slice none 0 0]).run Tryz.prog W = .ok (.slice none 0 0) W := by
  obtain ⟨i0, hi, hz0, hz1, hz2⟩ := info_parts info9
  simp [Builtin.append_, run_underlying Tryz.underlying22, hi, go_sem]
theorem run_copyS (W : World) (ok : Nat → Prop) (xs : List (List UInt8)) (v : Value) (h : StrsAre W ok xs v) (hl : xs.length ≤ 8000000000000) (ty : TypeId) :
    ∃ v' W', (Builtin.append_ #[22, 22] ty #[.slice none 0 0, v]).run Tryz.prog W = .ok v' W' ∧ StrsAre W' (fun k => W.heap.size ≤ k) xs v' ∧ Below W.heap.size W W' := by
  obtain ⟨i0, hi, hz0, hz1, hz2⟩ := info_parts info9
  have hm := h.1
  have some_case : ∀ (ad : Addr) (c : Nat), (∀ j u, (xs.map str)[j]? = some u → W.cell? (ad.add j) = some u) → (∀ x ∈ xs, x.length ≤ maxLen) →
      ∃ v' W', (Builtin.append_ #[22, 22] ty #[.slice none 0 0, .slice (some ad) xs.length c]).run Tryz.prog W = .ok v' W' ∧ StrsAre W' (fun k => W.heap.size ≤ k) xs v' ∧ Below W.heap.size W W' := by
    intro ad c hc hx
    obtain ⟨v', W', hr, ho, hg, -, -⟩ := run_append_own_at (P := Tryz.prog) W W.heap.size 22 ty 9 i0 _ 1 16 Tryz.underlying22 hi hz0 hz1 hz2 rfl (by decide) (.slice none 0 0) 0 [] (World.ownsRow_nil _ _ _ _) ad xs.length c (xs.map str) (by simp) hc (by intro u hu; simp only [List.mem_map] at hu; obtain ⟨x, -, rfl⟩ := hu; rfl) (by omega) (by omega) (Nat.le_refl _)
    refine ⟨v', W', hr, own_strs (n := xs.length) rfl (by simpa using ho) hx (fun _ h => h) hm, ?_⟩
    exact gb_none (by simpa [Value.ownBlock] using hg)
  rcases h.2 with ⟨rfl, a, rfl⟩ | ⟨b, off, c, rfl, h1, h2, h3⟩
  · cases a with
    | none => exact ⟨_, _, run_nil_nil W ty, ⟨by simp, .inl ⟨rfl, none, rfl⟩⟩, Below.refl _ _⟩
    | some ad => exact some_case ad 0 (by simp) (by simp)
  · refine some_case ⟨b, off, none⟩ c ?_ ?_
    · intro j u hj
      rw [addr_add]
      simp only [List.getElem?_map, Option.map_eq_some_iff] at hj
      obtain ⟨x, hx, rfl⟩ := hj
      exact (h3 j x hx).2.2
    · intro x hx
      obtain ⟨i, hi⟩ := List.getElem?_of_mem hx
      exact (h3 i x hi).1
end Go.Proofs.YtfbddgpekbhpfacGreatDoor

/- What CopyValue of package stairwellref does. -/
set_option linter.unusedSimpArgs false
set_option linter.unusedVariables false
namespace Go.Proofs.YtfbddgpekbhpfacGreatDoor
open Go.RowKit
attribute [local go_sem ↓] Go.wp_at_zero Go.wp_at_succ

/- How much there is in a value: itself, its keys, its items. -/
def siz : V → Nat
  | ⟨_, _, _, ks, l⟩ => 1 + ks.length + (l.map siz).sum
def sizs (xs : List V) : Nat := (xs.map siz).sum
theorem sizs_cons (x : V) (xs : List V) : sizs (x :: xs) = siz x + sizs xs := by simp [sizs]
theorem siz_eq (t : V) : siz t = 1 + t.keys.length + sizs t.l := by cases t; rw [siz]; rfl
theorem sizs_mem {xs : List V} {x : V} (h : x ∈ xs) : siz x ≤ sizs xs := by
  induction xs with
  | nil => cases h
  | cons y xs ih =>
    rw [sizs_cons]
    rcases List.mem_cons.1 h with rfl | h
    · omega
    · have := ih h; omega
theorem sizs_len : ∀ (xs : List V), xs.length ≤ sizs xs
  | [] => Nat.le_refl _
  | x :: xs => by
    have := sizs_len xs
    have := siz_eq x
    rw [sizs_cons, List.length_cons]; omega
theorem cnts_sizs_of : ∀ (l : List V), (∀ x ∈ l, cnt x ≤ siz x) → cnts l ≤ sizs l
  | [], _ => by simp [cnts, sizs]
  | x :: l, h => by
    rw [cnts_cons, sizs_cons]
    have h1 := h x (by simp)
    have h2 := cnts_sizs_of l fun y hy => h y (by simp [hy])
    omega
theorem cnt_siz : ∀ (t : V), cnt t ≤ siz t
  | ⟨k, n, s, ks, l⟩ => by
    rw [cnt_eq, siz_eq]
    have h : ∀ x ∈ l, cnt x ≤ siz x := fun x hx => cnt_siz x
    have := cnts_sizs_of l h
    simp only
    omega
theorem box_sL {w : World} {g : Nat} {c0 c1 c2 c3 c4 : Value} (h : BoxIs w g c0 c1 c2 c3 c4) (v : Value) : BoxIs (w.setCell ⟨g, 4, none⟩ v) g c0 c1 c2 c3 v := heap_set h 4 v
theorem box_sK {w : World} {g : Nat} {c0 c1 c2 c3 c4 : Value} (h : BoxIs w g c0 c1 c2 c3 c4) (v : Value) : BoxIs (w.setCell ⟨g, 3, none⟩ v) g c0 c1 c2 v c4 := heap_set h 3 v
theorem step_V {w : World} {ops : Array Oper} {o : Oper} {a : Act} {K : Act → World → Prop} {Q : Exit → Act → World → Prop} {E : Prop} (hgd : o.guard = none) (s x : Operand)
    (ho : o.op = .call { callee := .builtin .append, args := #[s, x], argTypes := #[23, 23] }) (B : Nat) (v : Value) (n : Nat) (cs : List Value) (k m : Int) (ss : ByteArray) (a7 a8 : Option Addr) (l7 c7 l8 c8 : Nat) (hs : a.eval s = v)
    (hx : a.eval x = .slice (some ⟨w.heap.size, 0, none⟩) 1 1) (hown : w.ownsRow B 25 5 v n cs) (hB : B ≤ w.heap.size) (hl : n ≤ 1700000000000)
    (hK : ∀ g cap w', w'.ownsRow B 25 5 (.slice (some ⟨g, 0, none⟩) (n + 1) cap) (n + 1) (cs ++ [.int .i64 k, .int .i64 m, .string ss, .slice a7 l7 c7, .slice a8 l8 c8]) → (w.alloc (.cells #[.int .i64 k, .int .i64 m, .string ss, .slice a7 l7 c7, .slice a8 l8 c8] 25)).grownBy w' v.ownBlock → (v.ownBlock = some g ∨ w.heap.size < g) → K (a.put o.dst (.slice (some ⟨g, 0, none⟩) (n + 1) cap)) w') :
    if Region.wanted o (yielded ops a.tmps) = true then Oper.wp Tryz.prog o a (w.alloc (.cells #[.int .i64 k, .int .i64 m, .string ss, .slice a7 l7 c7, .slice a8 l8 c8] 25)) K Q else E := by
  obtain ⟨i0, hi, hz0, hz1, hz2⟩ := info_parts info25
  have hb : BoxIs (w.alloc (.cells #[.int .i64 k, .int .i64 m, .string ss, .slice a7 l7 c7, .slice a8 l8 c8] 25)) w.heap.size (.int .i64 k) (.int .i64 m) (.string ss) (.slice a7 l7 c7) (.slice a8 l8 c8) := heap_alloc_new w _
  refine step_append_lies _ hgd s x 23 ho B 25 i0 _ 5 80 Tryz.underlying23 hi hz0 hz1 hz2 rfl (by decide) v n cs hs (hown.alloc _) ⟨w.heap.size, 0, none⟩ 1 1 [.int .i64 k, .int .i64 m, .string ss, .slice a7 l7 c7, .slice a8 l8 c8] hx rfl (World.news_of_block (cs := #[.int .i64 k, .int .i64 m, .string ss, .slice a7 l7 c7, .slice a8 l8 c8]) hb) (one5 _ _ _ _ _ _ _ _ _) (by decide) (by unfold maxLen; omega) (by omega) (by simp; omega) (w.heap.size + 1) (by simp) ?_
  intro g cap w' ho' hg' hor _
  exact hK g cap w' ho' hg' (hor.imp id fun e => by omega)
/- On the way. -/
def CpI (w : World) (d : Nat) (t : V) (k : Nat) (wr : World) : Prop :=
  ∃ (ka la : Option Addr) (kc lc g0 : Nat) (cs : List Value), BoxIs wr w.heap.size (.int .i64 t.kind) (.int .i64 t.n) (.string ⟨t.s.toArray⟩) (.slice ka t.keys.length kc) (.slice la k lc) ∧ BoxIs wr (w.heap.size + 1) (.int .i64 0) (.int .i64 0) (.string ⟨#[]⟩) (.slice none 0 0) (.slice none 0 0) ∧ wr.ownsRow (w.heap.size + 2) 25 5 (.slice la k lc) k cs ∧ (((.slice la k lc : Value).ownBlock = none ∧ g0 ≤ wr.heap.size) ∨ (.slice la k lc : Value).ownBlock = some g0) ∧ RowV (VIs wr (fun j => w.heap.size + 2 ≤ j ∧ j ≠ g0) d) (t.l.take k) cs ∧ StrsAre wr (fun j => w.heap.size + 2 ≤ j ∧ j ≠ g0) t.keys (.slice ka t.keys.length kc) ∧ Below w.heap.size w wr
theorem StrsAre.bel2 {w w' : World} {ok ok' : Nat → Prop} {r : Option Nat} {xs : List (List UInt8)} {v : Value} (h : StrsAre w ok xs v) (hg : w.grownBy w' r) (hr : ∀ k, ok k → some k ≠ r) (hk : ∀ k, ok k → k < w.heap.size → ok' k) : StrsAre w' ok' xs v :=
  h.imp fun a x h1 h2 => ⟨hk _ h1 (World.block_lt_of_cell? w a h2), hg.cell h2 (hr _ h1)⟩
/- One more is copied. -/
theorem cp_mk {w w3 w4 : World} {d : Nat} {t y : V} {k : Nat} {ka la a7 a8 : Option Addr} {kc lc g0 c7 c8 g cap : Nat} {cs : List Value} (hk : k < t.l.length) (hy : y = t.l[k])
    (bx : BoxIs w3 w.heap.size (.int .i64 t.kind) (.int .i64 t.n) (.string ⟨t.s.toArray⟩) (.slice ka t.keys.length kc) (.slice la k lc)) (bz : BoxIs w3 (w.heap.size + 1) (.int .i64 0) (.int .i64 0) (.string ⟨#[]⟩) (.slice none 0 0) (.slice none 0 0)) (ho : w3.ownsRow (w.heap.size + 2) 25 5 (.slice la k lc) k cs) (hlv : (.slice la k lc : Value).ownBlock = none ∨ (.slice la k lc : Value).ownBlock = some g0)
    (hrow : RowV (VIs w3 (fun j => w.heap.size + 2 ≤ j ∧ j ≠ g0) d) (t.l.take k) cs) (hks : StrsAre w3 (fun j => w.heap.size + 2 ≤ j ∧ j ≠ g0) t.keys (.slice ka t.keys.length kc)) (hb : Below w.heap.size w w3)
    (hv : VIs w3 (fun j => w.heap.size + 2 ≤ j ∧ j ≠ g0) d y (.agg #[.int .i64 y.kind, .int .i64 y.n, .string ⟨y.s.toArray⟩, .slice a7 y.keys.length c7, .slice a8 y.l.length c8]))
    (ho4 : w4.ownsRow (w.heap.size + 2) 25 5 (.slice (some ⟨g, 0, none⟩) (k + 1) cap) (k + 1) (cs ++ [.int .i64 y.kind, .int .i64 y.n, .string ⟨y.s.toArray⟩, .slice a7 y.keys.length c7, .slice a8 y.l.length c8]))
    (hg4 : (w3.alloc (.cells #[.int .i64 y.kind, .int .i64 y.n, .string ⟨y.s.toArray⟩, .slice a7 y.keys.length c7, .slice a8 y.l.length c8] 25)).grownBy w4 (.slice la k lc : Value).ownBlock) (hgg : (.slice la k lc : Value).ownBlock = some g ∨ w3.heap.size < g) :
    CpI w d t (k + 1) (w4.setCell ⟨w.heap.size, 4, none⟩ (.slice (some ⟨g, 0, none⟩) (k + 1) cap)) := by
  have hlow : ∀ j, (.slice la k lc : Value).ownBlock = some j → w.heap.size + 2 ≤ j := fun j hj => (ho.lt j hj).1
  have g34 : w3.grownBy w4 (.slice la k lc : Value).ownBlock := gb_trans (World.grownBy_alloc w3 _ _) hg4
  have g5 : w4.grownBy (w4.setCell ⟨w.heap.size, 4, none⟩ (.slice (some ⟨g, 0, none⟩) (k + 1) cap)) (some w.heap.size) := gb_set (gb_refl _ _) _ _
  have ne : ∀ j, j < w.heap.size + 2 → some j ≠ (.slice la k lc : Value).ownBlock := fun j hj e => by have := hlow j e.symm; omega
  have neR : ∀ j, (fun j => w.heap.size + 2 ≤ j ∧ j ≠ g0) j → some j ≠ (.slice la k lc : Value).ownBlock := by
    intro j hj e
    rcases hlv with h0 | h0 <;> rw [h0] at e <;> simp at e
    exact hj.2 e
  have up : ∀ j, (fun j => w.heap.size + 2 ≤ j ∧ j ≠ g0) j → j < w3.heap.size → w.heap.size + 2 ≤ j ∧ j ≠ g := by
    intro j hj hlt
    refine ⟨hj.1, fun e => ?_⟩
    subst e
    rcases hgg with h0 | h0
    · rcases hlv with h2 | h2
      · rw [h2] at h0; cases h0
      · rw [h2] at h0; cases h0; exact hj.2 rfl
    · omega
  have conv : ∀ x v, VIs w3 (fun j => w.heap.size + 2 ≤ j ∧ j ≠ g0) d x v → VIs (w4.setCell ⟨w.heap.size, 4, none⟩ (.slice (some ⟨g, 0, none⟩) (k + 1) cap)) (fun j => w.heap.size + 2 ≤ j ∧ j ≠ g) d x v := by
    intro x v h
    have h1 := (h.below.grown g34 (fun j hj => neR j hj.1)).grown g5 (fun j hj e => by have := hj.1.1; simp at e; omega)
    exact h1.weak fun j hj => up j hj.1 hj.2
  refine ⟨ka, some ⟨g, 0, none⟩, kc, cap, g, _, box_sL (bx.grown g34 (ne _ (by omega))) _, (bz.grown g34 (ne _ (by omega))).grown g5 (by simp), own_kept' ho4 g5 (by omega), .inr rfl, ?_, ?_, ?_⟩
  · have rx : RowV (VIs (w4.setCell ⟨w.heap.size, 4, none⟩ (.slice (some ⟨g, 0, none⟩) (k + 1) cap)) (fun j => w.heap.size + 2 ≤ j ∧ j ≠ g) d) [y] [.int .i64 y.kind, .int .i64 y.n, .string ⟨y.s.toArray⟩, .slice a7 y.keys.length c7, .slice a8 y.l.length c8] := ⟨_, _, _, _, _, [], rfl, conv _ _ hv, rfl⟩
    rw [take_snocV hk, ← hy]
    exact rx.append (hrow.imp conv)
  · exact (hks.bel2 (ok' := fun j => w.heap.size + 2 ≤ j ∧ j ≠ g) g34 neR up).bel2 g5 (fun j hj e => by have := hj.1; simp at e; omega) (fun j hj _ => hj)
  · refine gb_none (gb_out (g := w.heap.size) ?_ g5 (Nat.le_refl _))
    have hbw : w.grownBy w3 none := gb_below hb
    exact ⟨g34.os.trans hb.os, g34.tape.trans hb.tape, g34.output.trans hb.output, Nat.le_trans hb.size g34.size, fun j hj _ => (g34.block j (Nat.lt_of_lt_of_le hj hb.size) (ne j (by omega))).trans (hb.block j hj)⟩

theorem fresh_ne {wr w3 : World} {B d k g0 : Nat} {la : Option Addr} {lc : Nat} {cs : List Value} {y : V} {yv : Value} (h : VIs w3 (fun j => wr.heap.size + 1 ≤ j) d y yv) (ho : wr.ownsRow (B + 2) 25 5 (.slice la k lc) k cs) (hlv : ((.slice la k lc : Value).ownBlock = none ∧ g0 ≤ wr.heap.size) ∨ (.slice la k lc : Value).ownBlock = some g0) (hB : B + 1 < wr.heap.size) : VIs w3 (fun j => B + 2 ≤ j ∧ j ≠ g0) d y yv := by
  refine h.weak fun j hj => ⟨by omega, fun e => ?_⟩
  subst e
  rcases hlv with h0 | h0
  · omega
  · have := (ho.lt _ h0).2; omega
def CpC (d : Nat) : Prop := ∀ (w : World) (ok : Nat → Prop) (t : V) (v : Value), VIs w ok d t v → siz t ≤ 1000000000000 →
    Calls Tryz.prog 5 #[v] w fun e w' => ∃ r, e = .returned r ∧ Below w.heap.size w w' ∧ VIs w' (fun k => w.heap.size ≤ k) d t r

set_option maxRecDepth 100000 in
set_option maxHeartbeats 40000000 in
theorem copyValue_succ (d : Nat) (ih : CpC d) : CpC (d + 1) := by
  intro w ok t v h hN
  have IH := hidI ih
  obtain ⟨a1, a2, c1, c2, rfl⟩ := h.shape
  have VV : Hid (ValsAre w ok (VIs w ok d) t.l (.slice a2 t.l.length c2) ∧ StrsAre w ok t.keys (.slice a1 t.keys.length c1) ∧ t.s.length ≤ maxLen ∧ I64 t.kind ∧ I64 t.n) := hidI (by
    obtain ⟨ks, ls, e, h1, h2, h3, h4, h5⟩ := h
    simp only [Value.agg.injEq, Array.mk.injEq, List.cons.injEq, and_true] at e
    obtain ⟨-, -, -, rfl, rfl⟩ := e
    exact ⟨h5, h4, h3, h1, h2⟩)
  have ll : t.l.length ≤ 9223372036854775807 := VV.out.1.1
  have lk : t.keys.length ≤ 9223372036854775807 := VV.out.2.1.1
  have z0 := siz_eq t
  have z1 := sizs_len t.l
  have zk : t.keys.length ≤ 8000000000000 := by omega
  have zl : t.l.length ≤ 1700000000000 := by omega
  have ZS : Hid (sizs t.l ≤ 1000000000000) := hidI (by omega)
  have B2 : Hid (∀ o1 o2, Below w.heap.size w ((w.alloc o1).alloc o2)) := fun o1 o2 => bel_trans (bel_alloc _ _) (bel_alloc _ _)
  obtain ⟨kv, w5, hR, hks, hb5⟩ := run_copyS ((w.alloc (.cells #[.int .i64 t.kind, .int .i64 t.n, .string ⟨t.s.toArray⟩, .slice a1 t.keys.length c1, .slice a2 t.l.length c2] 25)).alloc (.cells #[.int .i64 0, .int .i64 0, .string ⟨#[]⟩, .slice none 0 0, .slice none 0 0] 25)) ok t.keys _ (VV.out.2.1.bel (B2.out _ _)) zk 22
  have HR := hidI hR
  obtain ⟨ka, kc, rfl⟩ := hks.form
  have hsz : ((w.alloc (.cells #[.int .i64 t.kind, .int .i64 t.n, .string ⟨t.s.toArray⟩, .slice a1 t.keys.length c1, .slice a2 t.l.length c2] 25)).alloc (.cells #[.int .i64 0, .int .i64 0, .string ⟨#[]⟩, .slice none 0 0, .slice none 0 0] 25)).heap.size = w.heap.size + 2 := by simp
  have K5 : Hid (BoxIs w5 w.heap.size (.int .i64 t.kind) (.int .i64 t.n) (.string ⟨t.s.toArray⟩) (.slice a1 t.keys.length c1) (.slice a2 t.l.length c2) ∧ BoxIs w5 (w.heap.size + 1) (.int .i64 0) (.int .i64 0) (.string ⟨#[]⟩) (.slice none 0 0) (.slice none 0 0) ∧ Below w.heap.size w w5 ∧ StrsAre w5 (fun j => w.heap.size + 2 ≤ j) t.keys (.slice ka t.keys.length kc)) := hidI ⟨box_bel hb5 (h2a w _ _), box_bel hb5 (h2b w _ _), bel_trans (B2.out _ _) hb5, by rw [hsz] at hks; exact hks⟩
  clear h ih hN z0 z1 hR hks hb5 hsz
  have I0 : Hid (CpI w d t 0 ((w5.setCell ⟨w.heap.size, 3, none⟩ (.slice ka t.keys.length kc)).setCell ⟨w.heap.size, 4, none⟩ (.slice none 0 0))) := by
    obtain ⟨k1, k2, k3, k4⟩ := K5.out
    have g1 : w5.grownBy ((w5.setCell ⟨w.heap.size, 3, none⟩ (.slice ka t.keys.length kc)).setCell ⟨w.heap.size, 4, none⟩ (.slice none 0 0)) (some w.heap.size) := gb_set (gb_set (gb_refl _ _) _ _) _ _
    refine hidI ⟨ka, none, kc, 0, w5.heap.size, [], box_sL (box_sK k1 _) _, k2.grown g1 (by simp), World.ownsRow_nil _ _ _ _, .inl ⟨rfl, g1.size⟩, rfl, ?_, gb_none (gb_out (gb_below k3) g1 (Nat.le_refl _))⟩
    exact k4.bel2 g1 (fun j hj e => by simp at e; omega) (fun j hj hlt => ⟨hj, by omega⟩)
  obtain ⟨y0, y1, y2, y3, y4, y5, y6, y7, y8, y9⟩ := K5.out.1.c
  go_enter Tryz.func5, Tryz.ntmps5
  go_wp2_with (at_builtin; go_must (refine Lib.wpList_append_run _ rfl _ _ _ _ rfl (.slice none 0 0) (.slice a1 t.keys.length c1) rfl rfl _ _ HR.out ?_); refine Hid.out ?_)
  refine hidI ?_
  go_wp2_with fail
  clear y0 y1 y2 y3 y4 y5 y6 y7 y8 y9 HR
  go_loopg [15] t.l.length (fun gk i wr => ∃ k : Nat, k ≤ t.l.length ∧ gk = t.l.length - k ∧ i = .int .i64 k ∧ CpI w d t k wr)
  case atStart => exact ⟨0, Nat.zero_le _, rfl, rfl, I0.out⟩
  case round =>
    obtain ⟨k, hk, hgk, rfl, ka, la, kc, lc, g0, cs, i1, i2, i3, i4, i5, i6, i7⟩ := hrel
    have GK := hidI hgk
    have I : Hid (BoxIs wr w.heap.size (.int .i64 t.kind) (.int .i64 t.n) (.string ⟨t.s.toArray⟩) (.slice ka t.keys.length kc) (.slice la k lc) ∧ BoxIs wr (w.heap.size + 1) (.int .i64 0) (.int .i64 0) (.string ⟨#[]⟩) (.slice none 0 0) (.slice none 0 0) ∧ wr.ownsRow (w.heap.size + 2) 25 5 (.slice la k lc) k cs ∧ (((.slice la k lc : Value).ownBlock = none ∧ g0 ≤ wr.heap.size) ∨ (.slice la k lc : Value).ownBlock = some g0) ∧ RowV (VIs wr (fun j => w.heap.size + 2 ≤ j ∧ j ≠ g0) d) (t.l.take k) cs ∧ StrsAre wr (fun j => w.heap.size + 2 ≤ j ∧ j ≠ g0) t.keys (.slice ka t.keys.length kc) ∧ Below w.heap.size w wr) := hidI ⟨i1, i2, i3, i4, i5, i6, i7⟩
    clear hgk i1 i2 i3 i4 i5 i6 i7
    by_cases hlt : k < t.l.length
    · obtain ⟨b, off, rfl, z1, z2, a5, c5, a6, c6, p0, p1, p2, p3, p4, p5⟩ := vals_at VV.out.1 hlt
      unfold maxLen at z2
      replace p0 := cell_bel I.out.2.2.2.2.2.2 p0
      replace p1 := cell_bel I.out.2.2.2.2.2.2 p1
      replace p2 := cell_bel I.out.2.2.2.2.2.2 p2
      replace p3 := cell_bel I.out.2.2.2.2.2.2 p3
      replace p4 := cell_bel I.out.2.2.2.2.2.2 p4
      have P5 := hidI (p5.bel I.out.2.2.2.2.2.2)
      have w1 : (0 : Int) ≤ (k : Int) := by omega
      have w2 : (k : Int) < (t.l.length : Int) := by omega
      have zx : Hid (siz t.l[k] ≤ 1000000000000) := hidI (by have := sizs_mem (List.getElem_mem hlt); have := ZS.out; omega)
      have call : Hid (∀ W, W.heap = (wr.alloc (.cells #[.int .i64 t.l[k].kind, .int .i64 t.l[k].n, .string ⟨t.l[k].s.toArray⟩, .slice a5 t.l[k].keys.length c5, .slice a6 t.l[k].l.length c6] 25)).heap → W.os = wr.os → W.tape = wr.tape → W.output = wr.output → Calls Tryz.prog 5 #[.agg #[.int .i64 t.l[k].kind, .int .i64 t.l[k].n, .string ⟨t.l[k].s.toArray⟩, .slice a5 t.l[k].keys.length c5, .slice a6 t.l[k].l.length c6]] W fun e w3 => ∃ (a7 a8 : Option Addr) (c7 c8 : Nat), e = .returned (.agg #[.int .i64 t.l[k].kind, .int .i64 t.l[k].n, .string ⟨t.l[k].s.toArray⟩, .slice a7 t.l[k].keys.length c7, .slice a8 t.l[k].l.length c8]) ∧ VIs w3 (fun j => wr.heap.size + 1 ≤ j) d t.l[k] (.agg #[.int .i64 t.l[k].kind, .int .i64 t.l[k].n, .string ⟨t.l[k].s.toArray⟩, .slice a7 t.l[k].keys.length c7, .slice a8 t.l[k].l.length c8]) ∧ Below wr.heap.size wr w3) := by
        intro W e1 e2 e3 e4
        have hbW : Below wr.heap.size wr W := by
          have := bel_alloc wr (.cells #[.int .i64 t.l[k].kind, .int .i64 t.l[k].n, .string ⟨t.l[k].s.toArray⟩, .slice a5 t.l[k].keys.length c5, .slice a6 t.l[k].l.length c6] 25)
          exact ⟨e2, e3, e4, by rw [e1]; exact this.size, fun k hk => by rw [e1]; exact this.block k hk⟩
        have hsz : W.heap.size = wr.heap.size + 1 := by rw [e1]; simp
        refine (IH.out W ok t.l[k] _ (P5.out.bel hbW) zx.out).mono ?_
        rintro e w3 ⟨r, rfl, hb, hr⟩
        obtain ⟨a7, a8, c7, c8, rfl⟩ := hr.shape
        rw [hsz] at hr
        exact ⟨a7, a8, c7, c8, rfl, hr, bel_trans hbW hb⟩
      have q4 := (box_bel (bel_alloc wr (.cells #[.int .i64 t.l[k].kind, .int .i64 t.l[k].n, .string ⟨t.l[k].s.toArray⟩, .slice a5 t.l[k].keys.length c5, .slice a6 t.l[k].l.length c6] 25)) I.out.1).c.2.2.2.2.1
      have hnl : k ≤ 1700000000000 := by omega
      clear p5
      go_wp2_with fail
      go_region_law ((first | (refine step_V (by rfl) _ _ (by rfl) (w.heap.size + 2) (.slice la k lc) k cs t.l[k].kind t.l[k].n ⟨t.l[k].s.toArray⟩ a7 a8 t.l[k].keys.length c7 t.l[k].l.length c8 (by rfl) (by rfl) K3.out.2.2.1 hsz3 hnl ?_; intro g cap w4 ho4 hg4 hgg4; obtain ⟨x0, x1, x2, x3, x4, -, -, -, -, x9⟩ := ((K3.out.1.grown (World.grownBy_alloc _ _ none) (by simp)).grown hg4 (ne3.out _ (by omega))).c; have CM := hidI (cp_mk hlt rfl K3.out.1 K3.out.2.1 K3.out.2.2.1 (K3.out.2.2.2.1.imp And.left id) K3.out.2.2.2.2.1 K3.out.2.2.2.2.2.1 K3.out.2.2.2.2.2.2 V3.out ho4 hg4 hgg4); clear ho4 hg4 hgg4) | (go_simp; go_at_call 5; refine (call.out _ (by rfl) (by rfl) (by rfl) (by rfl)).mono ?_; rintro e w3 ⟨a7, a8, c7, c8, rfl, hv3, hb3⟩; have V3 : Hid (VIs w3 (fun j => w.heap.size + 2 ≤ j ∧ j ≠ g0) d t.l[k] (.agg #[.int .i64 t.l[k].kind, .int .i64 t.l[k].n, .string ⟨t.l[k].s.toArray⟩, .slice a7 t.l[k].keys.length c7, .slice a8 t.l[k].l.length c8])) := hidI (fresh_ne hv3 I.out.2.2.1 I.out.2.2.2.1 I.out.2.1.lt); have K3 : Hid (BoxIs w3 w.heap.size (.int .i64 t.kind) (.int .i64 t.n) (.string ⟨t.s.toArray⟩) (.slice ka t.keys.length kc) (.slice la k lc) ∧ BoxIs w3 (w.heap.size + 1) (.int .i64 0) (.int .i64 0) (.string ⟨#[]⟩) (.slice none 0 0) (.slice none 0 0) ∧ w3.ownsRow (w.heap.size + 2) 25 5 (.slice la k lc) k cs ∧ (((.slice la k lc : Value).ownBlock = none ∧ g0 ≤ wr.heap.size) ∨ (.slice la k lc : Value).ownBlock = some g0) ∧ RowV (VIs w3 (fun j => w.heap.size + 2 ≤ j ∧ j ≠ g0) d) (t.l.take k) cs ∧ StrsAre w3 (fun j => w.heap.size + 2 ≤ j ∧ j ≠ g0) t.keys (.slice ka t.keys.length kc) ∧ Below w.heap.size w w3) := hidI ⟨box_bel hb3 I.out.1, box_bel hb3 I.out.2.1, I.out.2.2.1.kept (gb_below (r := none) hb3) (by cases (.slice la k lc : Value).ownBlock <;> simp), I.out.2.2.2.1, I.out.2.2.2.2.1.imp fun _ _ h => h.bel hb3, I.out.2.2.2.2.2.1.bel hb3, bel_trans I.out.2.2.2.2.2.2 hb3⟩; have hsz3 : w.heap.size + 2 ≤ w3.heap.size := Nat.le_trans I.out.2.1.lt hb3.size; have ne3 : Hid (∀ j, j < w.heap.size + 2 → some j ≠ (.slice la k lc : Value).ownBlock) := hidI (fun j hj e => by have := (K3.out.2.2.1.lt j e.symm).1; omega); have r4 := K3.out.1.c.2.2.2.2.1; have r5 : ∀ o, (w3.alloc o).cell? ⟨w.heap.size, 4, none⟩ = some (.slice la k lc) := fun o => (box_bel (bel_alloc w3 o) K3.out.1).c.2.2.2.2.1; clear hv3 hb3)))
      all_goals
        go_wp2_with fail
        go_roundg (t.l.length - (k + 1))
        case measure => rw [GK.out]; omega
        case rel => exact ⟨k + 1, hlt, rfl, by go_num, CM.out⟩
    · have hke : k = t.l.length := by omega
      subst hke
      have d1 : ¬ (t.l.length : Int) < (t.l.length : Int) := by omega
      obtain ⟨y0, y1, y2, y3, y4, -⟩ := I.out.1.c
      obtain ⟨z0, z1, z2, z3, z4, z5, z6, z7, z8, z9⟩ := I.out.2.1.c
      have gs := set5_gb wr (w.heap.size + 1) (.int .i64 t.kind) (.int .i64 t.n) (.string ⟨t.s.toArray⟩) (.slice ka t.keys.length kc) (.slice la t.l.length lc)
      have ZB : Hid _ := hidI (I.out.2.1.set (.int .i64 t.kind) (.int .i64 t.n) (.string ⟨t.s.toArray⟩) (.slice ka t.keys.length kc) (.slice la t.l.length lc))
      have Z : Hid (Below w.heap.size w (set5 wr (w.heap.size + 1) (.int .i64 t.kind) (.int .i64 t.n) (.string ⟨t.s.toArray⟩) (.slice ka t.keys.length kc) (.slice la t.l.length lc)) ∧ VIs (set5 wr (w.heap.size + 1) (.int .i64 t.kind) (.int .i64 t.n) (.string ⟨t.s.toArray⟩) (.slice ka t.keys.length kc) (.slice la t.l.length lc)) (fun j => w.heap.size ≤ j) (d + 1) t (.agg #[.int .i64 t.kind, .int .i64 t.n, .string ⟨t.s.toArray⟩, .slice ka t.keys.length kc, .slice la t.l.length lc])) := by
        obtain ⟨k1, k2, k3, k4, k5, k6, k7⟩ := I.out
        refine hidI ⟨bel_set5 k7 (by omega) _ _ _ _ _, _, _, rfl, VV.out.2.2.2.1, VV.out.2.2.2.2, VV.out.2.2.1, ?_, ?_⟩
        · exact k6.bel2 gs (fun j hj e => by have := hj.1; simp at e; omega) (fun j hj _ => by have := hj.1; omega)
        · rw [List.take_of_length_le (Nat.le_refl _)] at k5
          exact own_vals rfl (own_kept' k3 gs (by omega)) (k5.imp fun x v h => (h.grown gs (fun j hj e => by have := hj.1; simp at e; omega)).weak fun j hj => by have := hj.1; omega) (fun j hj => by omega) ll
      clear gs
      go_wp2_with fail
      obtain ⟨q0, q1, q2, q3, q4, -⟩ := ZB.out.c
      refine bodyPost_ret (v := .agg #[.int .i64 t.kind, .int .i64 t.n, .string ⟨t.s.toArray⟩, .slice ka t.keys.length kc, .slice la t.l.length lc]) ?_ rfl ?_
      · simp only [set5] at q0 q1 q2 q3 q4
        simp [results, Tryz.results5, go_sem, q0, q1, q2, q3, q4]
      · exact ⟨_, rfl, Z.out.1, Z.out.2⟩
theorem copyValue_all (d : Nat) : CpC d := by
  induction d with
  | zero => exact fun _ _ _ _ h => h.elim
  | succ d ih => exact copyValue_succ d ih
end Go.Proofs.YtfbddgpekbhpfacGreatDoor

/- An object that is being made: a row of keys and a row of items, side by side. -/
set_option linter.unusedSimpArgs false
set_option linter.unusedVariables false
namespace Go.Proofs.YtfbddgpekbhpfacGreatDoor
open Go.RowKit

theorem run_pushS {W : World} {B : Nat} {v : Value} {n : Nat} {cs : List Value} {nb : Nat} {k : ByteArray} (ho : W.ownsRow B 9 1 v n cs) (hnb : W.heap[nb]? = some (.cells #[.string k] 9)) (hn : n ≤ 1000000) (hB : B ≤ W.heap.size) (ty : TypeId) :
    ∃ g cap W', (Builtin.append_ #[22, 22] ty #[v, .slice (some ⟨nb, 0, none⟩) 1 1]).run Tryz.prog W = .ok (.slice (some ⟨g, 0, none⟩) (n + 1) cap) W' ∧ W'.ownsRow B 9 1 (.slice (some ⟨g, 0, none⟩) (n + 1) cap) (n + 1) (cs ++ [.string k]) ∧ W.grownBy W' v.ownBlock ∧ (v.ownBlock = some g ∨ W.heap.size = g) := by
  obtain ⟨i0, hi, hz0, hz1, hz2⟩ := info_parts info9
  obtain ⟨g, cap, W', hr, h1, h2, h3, -⟩ := run_append_lies (P := Tryz.prog) W 22 ty B 9 i0 _ 1 16 Tryz.underlying22 hi hz0 hz1 hz2 rfl (by decide) v n cs ho ⟨nb, 0, none⟩ 1 1 [.string k] rfl
    (World.news_of_block (cs := #[.string k]) hnb) (by intro u hu; simp only [List.mem_cons, List.not_mem_nil, or_false] at hu; subst hu; rfl) (by decide) (by unfold maxLen; omega) (by omega) hB W.heap.size rfl
  exact ⟨g, cap, W', hr, h1, h2, h3.imp id Eq.symm⟩
theorem run_pushV {W : World} {B : Nat} {v : Value} {n : Nat} {cs : List Value} {nb : Nat} {k m : Int} {ss : ByteArray} {a7 a8 : Option Addr} {l7 c7 l8 c8 : Nat} (ho : W.ownsRow B 25 5 v n cs) (hnb : W.heap[nb]? = some (.cells #[.int .i64 k, .int .i64 m, .string ss, .slice a7 l7 c7, .slice a8 l8 c8] 25)) (hn : n ≤ 1000000) (hB : B ≤ W.heap.size) (ty : TypeId) :
    ∃ g cap W', (Builtin.append_ #[23, 23] ty #[v, .slice (some ⟨nb, 0, none⟩) 1 1]).run Tryz.prog W = .ok (.slice (some ⟨g, 0, none⟩) (n + 1) cap) W' ∧ W'.ownsRow B 25 5 (.slice (some ⟨g, 0, none⟩) (n + 1) cap) (n + 1) (cs ++ [.int .i64 k, .int .i64 m, .string ss, .slice a7 l7 c7, .slice a8 l8 c8]) ∧ W.grownBy W' v.ownBlock ∧ (v.ownBlock = some g ∨ W.heap.size = g) := by
  obtain ⟨i0, hi, hz0, hz1, hz2⟩ := info_parts info25
  obtain ⟨g, cap, W', hr, h1, h2, h3, -⟩ := run_append_lies (P := Tryz.prog) W 23 ty B 25 i0 _ 5 80 Tryz.underlying23 hi hz0 hz1 hz2 rfl (by decide) v n cs ho ⟨nb, 0, none⟩ 1 1 [.int .i64 k, .int .i64 m, .string ss, .slice a7 l7 c7, .slice a8 l8 c8] rfl
    (World.news_of_block (cs := #[.int .i64 k, .int .i64 m, .string ss, .slice a7 l7 c7, .slice a8 l8 c8]) hnb) (one5 _ _ _ _ _ _ _ _ _) (by decide) (by unfold maxLen; omega) (by omega) hB W.heap.size rfl
  exact ⟨g, cap, W', hr, h1, h2, h3.imp id Eq.symm⟩
/- An append in a region that draws, by its run. -/
theorem step_run {w : World} {ops : Array Oper} {o : Oper} {a : Act} {K : Act → World → Prop} {Q : Exit → Act → World → Prop} {E : Prop} (hgd : o.guard = none) (s x : Operand) (t : TypeId) (ho : o.op = .call { callee := .builtin .append, args := #[s, x], argTypes := #[t, t] })
    (v u : Value) (hs : a.eval s = v) (hx : a.eval x = u) (R : Value → World → Prop) (hr : ∀ ty, ∃ v' w', (Builtin.append_ #[t, t] ty #[v, u]).run Tryz.prog w = .ok v' w' ∧ R v' w') (hK : ∀ v' w', R v' w' → K (a.put o.dst v') w') :
    if Region.wanted o (yielded ops a.tmps) = true then Oper.wp Tryz.prog o a w K Q else E := by
  have hw : Region.wanted o (yielded ops a.tmps) = true := by simp [Region.wanted, hgd]
  rw [if_pos hw]
  obtain ⟨v', w', h1, h2⟩ := hr o.type
  unfold Oper.wp execOp
  simp only [ho, resolve, invoke, builtin, Sem.run_bind, Sem.run_pure, Result.andThen_ok, List.map_toArray, List.map_cons, List.map_nil, hs, hx, h1]
  exact hK v' w' h2
/- Both rows. -/
def OE (w : World) (ok : Nat → Prop) (B d : Nat) (ks : List (List UInt8)) (l : List V) (kv lv : Value) (wr : World) : Prop :=
  ∃ cs, wr.ownsRow B 9 1 kv ks.length (ks.map str) ∧ wr.ownsRow B 25 5 lv l.length cs ∧ RowV (VIs wr (fun k => ok k ∧ k < w.heap.size) d) l cs ∧ (∀ g, kv.ownBlock = some g → lv.ownBlock ≠ some g) ∧ Below w.heap.size w wr ∧ w.heap.size ≤ B
theorem OE.bel {w wr wr' : World} {ok : Nat → Prop} {B d : Nat} {ks : List (List UInt8)} {l : List V} {kv lv : Value} (h : OE w ok B d ks l kv lv wr) (hb : Below wr.heap.size wr wr') : OE w ok B d ks l kv lv wr' := by
  obtain ⟨cs, h1, h2, h3, h4, h5, h6⟩ := h
  exact ⟨cs, own_bel h1 hb, own_bel h2 hb, h3.imp fun _ _ h => h.bel hb, h4, bel_trans h5 hb, h6⟩
theorem gb_far {a w w' : World} {r : Option Nat} (hb : Below a.heap.size a w) (hg : w.grownBy w' r) (hr : ∀ g, r = some g → a.heap.size ≤ g) : Below a.heap.size a w' :=
  ⟨hg.os.trans hb.os, hg.tape.trans hb.tape, hg.output.trans hb.output, Nat.le_trans hb.size hg.size, fun k hk => (hg.block k (Nat.lt_of_lt_of_le hk hb.size) (fun e => by have := hr k e.symm; omega)).trans (hb.block k hk)⟩
/- A key more. -/
theorem OE.key {w W : World} {ok : Nat → Prop} {B d : Nat} {ks : List (List UInt8)} {l : List V} {kv lv : Value} (h : OE w ok B d ks l kv lv W) {nb : Nat} {k : List UInt8} (hnb : W.heap[nb]? = some (.cells #[.string ⟨k.toArray⟩] 9)) (hn : ks.length ≤ 1000000) (hB : B ≤ W.heap.size) (ty : TypeId) :
    ∃ v' W', (Builtin.append_ #[22, 22] ty #[kv, .slice (some ⟨nb, 0, none⟩) 1 1]).run Tryz.prog W = .ok v' W' ∧ OE w ok B d (ks ++ [k]) l v' lv W' ∧ W.grownBy W' kv.ownBlock ∧ ∃ g cap, v' = .slice (some ⟨g, 0, none⟩) (ks.length + 1) cap := by
  obtain ⟨cs, h1, h2, h3, h4, h5, h6⟩ := h
  obtain ⟨g, cap, W', hr, ho, hg, hor⟩ := run_pushS h1 hnb hn hB ty
  have low : ∀ g', kv.ownBlock = some g' → w.heap.size ≤ g' := fun g' e => Nat.le_trans h6 (h1.lt g' e).1
  refine ⟨_, W', hr, ⟨cs, by simpa [str] using ho, h2.kept hg ?_, h3.imp fun _ _ h => h.grown hg (fun j hj e => by have := low j e.symm; have := hj.2; omega), ?_, gb_far h5 hg low, h6⟩, hg, g, cap, rfl⟩
  · cases hl : lv.ownBlock with
    | none => exact .inl rfl
    | some g' => exact .inr fun e => h4 g' e.symm hl
  · intro g' e hl
    simp only [Value.ownBlock, Option.some.injEq] at e
    subst e
    rcases hor with h0 | h0
    · exact h4 _ h0 hl
    · have := (h2.lt _ hl).2; omega
/- An item more. -/
theorem OE.item {w W : World} {ok : Nat → Prop} {B d : Nat} {ks : List (List UInt8)} {l : List V} {kv lv : Value} (h : OE w ok B d ks l kv lv W) {nb : Nat} {y : V} {a7 a8 : Option Addr} {c7 c8 : Nat} (hnb : W.heap[nb]? = some (.cells #[.int .i64 y.kind, .int .i64 y.n, .string ⟨y.s.toArray⟩, .slice a7 y.keys.length c7, .slice a8 y.l.length c8] 25))
    (hy : VIs W (fun k => ok k ∧ k < w.heap.size) d y (.agg #[.int .i64 y.kind, .int .i64 y.n, .string ⟨y.s.toArray⟩, .slice a7 y.keys.length c7, .slice a8 y.l.length c8])) (hn : l.length ≤ 1000000) (hB : B ≤ W.heap.size) (ty : TypeId) :
    ∃ v' W', (Builtin.append_ #[23, 23] ty #[lv, .slice (some ⟨nb, 0, none⟩) 1 1]).run Tryz.prog W = .ok v' W' ∧ OE w ok B d ks (l ++ [y]) kv v' W' ∧ W.grownBy W' lv.ownBlock ∧ ∃ g cap, v' = .slice (some ⟨g, 0, none⟩) (l.length + 1) cap := by
  obtain ⟨cs, h1, h2, h3, h4, h5, h6⟩ := h
  obtain ⟨g, cap, W', hr, ho, hg, hor⟩ := run_pushV h2 hnb hn hB ty
  have low : ∀ g', lv.ownBlock = some g' → w.heap.size ≤ g' := fun g' e => Nat.le_trans h6 (h2.lt g' e).1
  have conv : ∀ x v, VIs W (fun k => ok k ∧ k < w.heap.size) d x v → VIs W' (fun k => ok k ∧ k < w.heap.size) d x v := fun x v h => h.grown hg (fun j hj e => by have := low j e.symm; have := hj.2; omega)
  have rx : RowV (VIs W' (fun k => ok k ∧ k < w.heap.size) d) [y] [.int .i64 y.kind, .int .i64 y.n, .string ⟨y.s.toArray⟩, .slice a7 y.keys.length c7, .slice a8 y.l.length c8] := ⟨_, _, _, _, _, [], rfl, conv _ _ hy, rfl⟩
  refine ⟨_, W', hr, ⟨_, h1.kept hg ?_, by simpa using ho, rx.append (h3.imp conv), ?_, gb_far h5 hg low, h6⟩, hg, g, cap, rfl⟩
  · cases hl : kv.ownBlock with
    | none => exact .inl rfl
    | some g' => exact .inr fun e => h4 g' hl e.symm
  · intro g' e hl
    simp only [Value.ownBlock, Option.some.injEq] at hl
    subst hl
    rcases hor with h0 | h0
    · exact h4 _ e h0
    · have := (h1.lt _ e).2; omega
end Go.Proofs.YtfbddgpekbhpfacGreatDoor

/- A region that draws its order, and at its end writes the very cells that it read: loads may be taken first where whatever writes waits for them. -/
set_option linter.unusedSimpArgs false
set_option linter.unusedVariables false
namespace Go.Proofs.YtfbddgpekbhpfacGreatDoor
open Go

section
variable {P : Program} {ops : Array Oper} {Q : Exit → Act → World → Prop} {md : Region.Mode} {S : World → Prop} {T : List Nat}

def untilB (T : List Nat) (listed : Array Bool) : Bool := T.all fun t => listed.getD t true == false
/- Whatever order is picked, and S holds behind each operation while none of T has come up. -/
def wpAnyT (P : Program) (md : Region.Mode) (ops : Array Oper) (Q : Exit → Act → World → Prop) (S : World → Prop) (T : List Nat) : Nat → Array Bool → Act → World → Prop
  | 0, listed, a, w => Region.ready md ops listed = [] ∧ Q .normal a w
  | fuel + 1, listed, a, w =>
    (Region.ready md ops listed = [] → Q .normal a w) ∧
    ∀ i ∈ Region.ready md ops listed, wpOp P ops Q i (fun a' w' => (untilB T (listed.setIfInBounds i true) = true → S w') ∧ wpAnyT P md ops Q S T fuel (listed.setIfInBounds i true) a' w') a w
theorem wpAny_of_T : ∀ (fuel : Nat) (listed : Array Bool) (a : Act) (w : World), wpAnyT P md ops Q S T fuel listed a w → wpAny P md ops Q fuel listed a w
  | 0, _, _, _, h => h
  | fuel + 1, _, _, _, h => ⟨h.1, fun i hi => wpOp_mono (fun a' w' h' => wpAny_of_T fuel _ a' w' h'.2) (h.2 i hi)⟩
theorem wpAnyT_of_any : ∀ (fuel : Nat) (listed : Array Bool) (a : Act) (w : World), untilB T listed = false → wpAny P md ops Q fuel listed a w → wpAnyT P md ops Q S T fuel listed a w
  | 0, _, _, _, _, h => h
  | fuel + 1, listed, _, _, hu, h => by
    refine ⟨h.1, fun i hi => wpOp_mono (fun a' w' h' => ?_) (h.2 i hi)⟩
    have hu' : untilB T (listed.setIfInBounds i true) = false := by
      unfold untilB at hu ⊢
      rw [List.all_eq_false] at hu ⊢
      obtain ⟨t, ht, h0⟩ := hu
      refine ⟨t, ht, ?_⟩
      by_cases e : i = t
      · subst e
        by_cases hs : i < listed.size
        · simp [Array.getD, hs]
        · simp [Array.getD, hs]
      · rw [getD_set_ne true e]; exact h0
    exact ⟨fun h => absurd h (by rw [hu']; simp), wpAnyT_of_any fuel _ a' w' hu' h'⟩
/- All of D wait for number i. -/
def behindB (md : Region.Mode) (ops : Array Oper) (listed : Array Bool) (i : Nat) (T D : List Nat) : Bool :=
  (D.all fun d => (match ops[d]? with | some o => o.after.any fun e => Region.binds md e && (e.on == i || D.contains e.on) | none => false) && listed.getD d true == false) && T.all fun t => D.contains t
theorem behind_not {listed : Array Bool} {i : Nat} {D : List Nat} (hD : ∀ d ∈ D, (∃ o, ops[d]? = some o ∧ ∃ e ∈ o.after, Region.binds md e = true ∧ (e.on = i ∨ e.on ∈ D)) ∧ listed.getD d true = false) (hi : listed.getD i true = false) {j : Nat} (hj : j ∈ Region.ready md ops listed) : j ∉ D := by
  intro hjD
  obtain ⟨⟨o, ho, e, he, hb, hon⟩, -⟩ := hD j hjD
  obtain ⟨-, oj, hoj, hall⟩ := mem_ready.1 hj
  rw [ho] at hoj
  cases hoj
  have h1 := hall e he hb
  have h0 : listed.getD e.on true = false := by
    rcases hon with h | h
    · rw [h]; exact hi
    · exact (hD _ h).2
  rcases Nat.lt_or_ge e.on listed.size with h' | h'
  · simp [h'] at h0 h1; rw [h0] at h1; cases h1
  · simp [Array.getElem?_eq_none h'] at h1
theorem until_of {listed : Array Bool} {i : Nat} {T D : List Nat} (hT : ∀ t ∈ T, t ∈ D) (hD : ∀ d ∈ D, listed.getD d true = false) (hi : i ∉ D) : untilB T (listed.setIfInBounds i true) = true := by
  unfold untilB
  rw [List.all_eq_true]
  intro t ht
  have : i ≠ t := fun e => hi (e ▸ hT t ht)
  rw [getD_set_ne true this, hD t (hT t ht)]; rfl
theorem wpAnyT_first {i : Nat} {oi : Oper} {v : Value} {D : List Nat} (hi : ops[i]? = some oi) (hsel : ∀ (j : Nat) (o : Oper) cs b, ops[j]? = some o → o.op ≠ .select cs b)
    (hQ : ∀ c a w, Q (.panic c) (a.put oi.dst v) w → Q (.panic c) a w) (hTD : ∀ t ∈ T, t ∈ D) :
    ∀ (fuel : Nat) (listed : Array Bool) (a : Act) (w : World),
      (∀ j oj, ops[j]? = some oj → j ≠ i → listed.getD j true = false → (∀ e ∈ oj.after, Region.binds md e = true → e.on ≠ i) → oi.apart ops oj = true) →
      (∀ d ∈ D, (∃ o, ops[d]? = some o ∧ ∃ e ∈ o.after, Region.binds md e = true ∧ (e.on = i ∨ e.on ∈ D)) ∧ listed.getD d true = false) →
      i ∈ Region.ready md ops listed → YieldsIf P ops S oi v a → S w →
      wpAnyT P md ops Q S T fuel (listed.setIfInBounds i true) (a.put oi.dst v) w → wpAnyT P md ops Q S T (fuel + 1) listed a w := by
  intro fuel
  induction fuel with
  | zero =>
    intro listed a w _ hD hr hy hS H
    refine ⟨fun h => (by rw [h] at hr; cases hr), fun j hj => ?_⟩
    by_cases hji : j = i
    · subst hji; exact hy.wpOp hi hS ⟨fun _ => hS, H⟩
    · have := ready_mono hj hji
      rw [H.1] at this
      cases this
  | succ fuel ih =>
    intro listed a w hfree hD hr hy hS H
    have hi0 : listed.getD i true = false := by
      obtain ⟨h0, -⟩ := mem_ready.1 hr
      exact h0
    refine ⟨fun h => (by rw [h] at hr; cases hr), fun j hj => ?_⟩
    by_cases hji : j = i
    · subst hji; exact hy.wpOp hi hS ⟨fun _ => hS, H⟩
    · have h1 := H.2 j (ready_mono hj hji)
      obtain ⟨hjun, oj, hoj, hall⟩ := mem_ready.1 hj
      have hnot : ∀ e ∈ oj.after, Region.binds md e = true → e.on ≠ i := fun e he hb heq => by
        have h1 := hall e he hb
        have h0 := (mem_ready.1 hr).1
        rw [heq] at h1
        rcases Nat.lt_or_ge i listed.size with h' | h'
        · simp [h'] at h0 h1; rw [h0] at h1; cases h1
        · simp [Array.getElem?_eq_none h'] at h1
      have hjD : j ∉ D := behind_not hD hi0 hj
      have hiD : i ∉ D := behind_not hD hi0 hr
      have h2 := wpOp_putIf hoj (hfree j oj hoj hji hjun hnot) (fun cs b => hsel i oi cs b hi) (fun cs b => hsel j oj cs b hoj) hQ hy h1
      have hfree' : ∀ k ok, ops[k]? = some ok → k ≠ i → (listed.setIfInBounds j true).getD k true = false →
          (∀ e ∈ ok.after, Region.binds md e = true → e.on ≠ i) → oi.apart ops ok = true := fun k ok hk hki hun hno => by
        refine hfree k ok hk hki ?_ hno
        by_cases hjk : j = k
        · subst hjk; exact hjun
        · rw [getD_set_ne true hjk] at hun; exact hun
      have hD' : ∀ d ∈ D, (∃ o, ops[d]? = some o ∧ ∃ e ∈ o.after, Region.binds md e = true ∧ (e.on = i ∨ e.on ∈ D)) ∧ (listed.setIfInBounds j true).getD d true = false := fun d hd => by
        refine ⟨(hD d hd).1, ?_⟩
        have : j ≠ d := fun e => hjD (e ▸ hd)
        rw [getD_set_ne true this]; exact (hD d hd).2
      have hu : untilB T (((listed.setIfInBounds i true)).setIfInBounds j true) = true := until_of hTD (fun d hd => by
        have : i ≠ d := fun e => hiD (e ▸ hd)
        rw [getD_set_ne true this]; exact (hD d hd).2) hjD
      refine wpOp_mono (fun a' w' h3 => ⟨fun _ => h3.2.1 hu, ih (listed.setIfInBounds j true) a' w' hfree' hD' (ready_mono hr (Ne.symm hji)) h3.1 (h3.2.1 hu) ?_⟩) h2
      rw [Array.setIfInBounds_comm _ _ hji]
      exact h3.2.2
/- Take number i first. -/
theorem wpAnyT_take {i : Nat} {oi : Oper} {v : Value} {fuel : Nat} {listed : Array Bool} {a : Act} {w : World} (D : List Nat) (hi : ops[i]? = some oi)
    (hs : Region.noSelect ops = true) (hf : Region.free md ops listed i = true) (hr : (Region.ready md ops listed).contains i = true) (hB : behindB md ops listed i T D = true)
    (hQ : ∀ c a w, Q (.panic c) (a.put oi.dst v) w → Q (.panic c) a w) (hy : YieldsIf P ops S oi v a) (hS : S w)
    (h : wpAnyT P md ops Q S T fuel (listed.setIfInBounds i true) (a.put oi.dst v) w) : wpAnyT P md ops Q S T (fuel + 1) listed a w := by
  unfold behindB at hB
  rw [Bool.and_eq_true, List.all_eq_true, List.all_eq_true] at hB
  refine wpAnyT_first (D := D) hi (Region.noSelect_spec hs) hQ (fun t ht => by simpa using hB.2 t ht) fuel listed a w (Region.free_spec hi hf) (fun d hd => ?_) (by simpa using hr) hy hS h
  have h1 := hB.1 d hd
  rw [Bool.and_eq_true] at h1
  refine ⟨?_, by simpa using h1.2⟩
  cases ho : ops[d]? with
  | none => rw [ho] at h1; simp at h1
  | some o =>
    rw [ho] at h1
    have h2 := h1.1
    simp only [Array.any_eq_true] at h2
    obtain ⟨k, hk, h3⟩ := h2
    refine ⟨o, rfl, o.after[k], Array.getElem_mem hk, ?_⟩
    simpa using h3
/- Each of rs comes up next. -/
def AllReadyT (P : Program) (md : Region.Mode) (ops : Array Oper) (Q : Exit → Act → World → Prop) (S : World → Prop) (T : List Nat) (fuel : Nat) (listed : Array Bool) (a : Act) (w : World) (rs : List Nat) : Prop :=
  ∀ i ∈ rs, wpOp P ops Q i (fun a' w' => (untilB T (listed.setIfInBounds i true) = true → S w') ∧ wpAnyT P md ops Q S T fuel (listed.setIfInBounds i true) a' w') a w
theorem AllReadyT.nil {fuel : Nat} {listed : Array Bool} {a : Act} {w : World} : AllReadyT P md ops Q S T fuel listed a w [] := fun _ h => by cases h
/- An operation ahead of T: S is shown anew, and handed on. -/
theorem AllReadyT.cons {fuel : Nat} {listed : Array Bool} {a : Act} {w : World} {i : Nat} {o : Oper} {rs : List Nat} (ho : ops[i]? = some o)
    (h : ∀ K' : Act → World → Prop, Shut (∀ a w, S w → (S w → wpAnyT P md ops Q S T fuel (listed.setIfInBounds i true) a w) → K' a w) → if Region.wanted o (yielded ops a.tmps) = true then Oper.wp P o a w K' Q else K' (a.put o.dst undef) w)
    (hs : AllReadyT P md ops Q S T fuel listed a w rs) : AllReadyT P md ops Q S T fuel listed a w (i :: rs) := fun j hj => by
  rcases List.mem_cons.1 hj with rfl | hj
  · exact wpOp_step ho (fun K' hK => h K' (fun a w hS hW => hK a w ⟨fun _ => hS, hW hS⟩))
  · exact hs j hj
theorem wpAnyT_ready {rs : List Nat} {fuel : Nat} {listed : Array Bool} {a : Act} {w : World} (hr : Region.ready md ops listed = rs) (hne : rs ≠ [])
    (h : AllReadyT P md ops Q S T fuel listed a w rs) : wpAnyT P md ops Q S T (fuel + 1) listed a w := ⟨fun h0 => absurd (hr ▸ h0) hne, hr ▸ h⟩
/- An operation of T, or behind it, that comes up alone. -/
theorem wpAnyT_last {i : Nat} {o : Oper} {fuel : Nat} {listed : Array Bool} {a : Act} {w : World} (hr : Region.ready md ops listed = [i]) (hu : untilB T (listed.setIfInBounds i true) = false) (ho : ops[i]? = some o)
    (h : ∀ K' : Act → World → Prop, Shut (∀ a w, wpAnyT P md ops Q S T fuel (listed.setIfInBounds i true) a w → K' a w) → if Region.wanted o (yielded ops a.tmps) = true then Oper.wp P o a w K' Q else K' (a.put o.dst undef) w) :
    wpAnyT P md ops Q S T (fuel + 1) listed a w := by
  refine ⟨fun h0 => (by rw [hr] at h0; cases h0), fun j hj => ?_⟩
  rw [hr, List.mem_singleton] at hj
  subst hj
  exact wpOp_step ho (fun K' hK => h K' (fun a w hW => hK a w ⟨fun h => absurd h (by rw [hu]; simp), hW⟩))
theorem wpAnyT_done {listed : Array Bool} {a : Act} {w : World} (hr : Region.ready md ops listed = []) (h : Q .normal a w) :
    ∀ fuel, wpAnyT P md ops Q S T fuel listed a w
  | 0 => ⟨hr, h⟩
  | _ + 1 => ⟨fun _ => h, by rw [hr]; simp⟩
theorem wp_region_T {id : Nat} {a : Act} {w : World} (S : World → Prop) (T : List Nat) (hm : P.follows .mixedOrders = true) (hS : S w.drew)
    (h : S w.drew → wpAnyT P .any ops Q S T ops.size (Array.replicate ops.size false) a w.drew) : (Code.region id ops true).wp P Q a w :=
  wp_region_any hm (wpAny_of_T _ _ _ _ (h hS))
end
end Go.Proofs.YtfbddgpekbhpfacGreatDoor

/- What WithMember and WithoutMember of the reference make of pairs, plainly. -/
set_option linter.unusedSimpArgs false
set_option linter.unusedVariables false
namespace Go.Proofs.YtfbddgpekbhpfacGreatDoor
open Go.RowKit
/- What WithMember and WithoutMember of the reference make of pairs. -/
def wmF (key : List UInt8) (x : V) : List (List UInt8 × V) → Bool → List (List UInt8 × V)
  | [], put => if put then [] else [(key, x)]
  | p :: r, put => (if !put && !Op.bytesLess p.1 key then [(key, x)] else []) ++ (if p.1 ≠ key then [p] else []) ++ wmF key x r (put || !Op.bytesLess p.1 key)
theorem wm_put (key : List UInt8) (x : V) : ∀ (ps : List (List UInt8 × V)), wmF key x ps true = ps.filter fun p => decide (p.1 ≠ key)
  | [] => rfl
  | p :: r => by
    unfold wmF
    simp only [Bool.not_true, Bool.false_and, Bool.false_eq_true, if_false, List.nil_append, Bool.true_or, wm_put key x r]
    by_cases h : p.1 = key <;> simp [h]
theorem look_filter {k key : List UInt8} (h : k ≠ key) : ∀ (ps : List (List UInt8 × V)), look k (ps.filter fun p => decide (p.1 ≠ key)) = look k ps
  | [] => rfl
  | p :: r => by
    by_cases hp : p.1 = key
    · have : p.1 ≠ k := fun e => h (e.symm.trans hp)
      simp only [List.filter_cons, hp, ne_eq, not_true_eq_false, decide_false, Bool.false_eq_true, if_false, look_filter h r]
      rw [look, if_neg this]
    · simp only [List.filter_cons, hp, ne_eq, not_false_eq_true, decide_true, if_true, look, look_filter h r]
theorem wm_look (key : List UInt8) (x : V) (k : List UInt8) : ∀ (ps : List (List UInt8 × V)), (ps.map Prod.fst).Pairwise (fun a b => Op.bytesLess a b = true) → look k (wmF key x ps false) = if k = key then some x else look k ps
  | [], _ => by
    unfold wmF
    by_cases h : key = k
    · simp [look, h]
    · have : ¬ k = key := fun e => h e.symm
      simp [look, h, this]
  | p :: r, hr => by
    rw [List.map_cons, List.pairwise_cons] at hr
    unfold wmF
    cases hb : Op.bytesLess p.1 key with
    | true =>
      have hne : p.1 ≠ key := less_ne hb
      simp only [Bool.not_false, Bool.not_true, Bool.and_false, Bool.false_eq_true, if_false, List.nil_append, Bool.or_false, if_pos hne, List.singleton_append, look, wm_look key x k r hr.2]
      by_cases h : p.1 = k
      · have : k ≠ key := fun e => hne (h.trans e)
        simp [h, this]
      · simp [h]
    | false =>
      simp only [Bool.not_false, Bool.and_true, if_true, Bool.or_true, wm_put, List.append_assoc]
      rw [List.singleton_append, look]
      by_cases h : key = k
      · simp [h]
      · have h' : k ≠ key := fun e => h e.symm
        simp only [if_neg h, if_neg h']
        rw [show (if p.1 ≠ key then [p] else []) ++ r.filter (fun p => decide (p.1 ≠ key)) = (p :: r).filter (fun p => decide (p.1 ≠ key)) by by_cases hp : p.1 = key <;> simp [hp]]
        exact look_filter h' (p :: r)
theorem wm_rises (key : List UInt8) (x : V) : ∀ (ps : List (List UInt8 × V)), (ps.map Prod.fst).Pairwise (fun a b => Op.bytesLess a b = true) → ((wmF key x ps false).map Prod.fst).Pairwise (fun a b => Op.bytesLess a b = true) ∧
    ∀ a, (∀ k ∈ ps.map Prod.fst, Op.bytesLess a k = true) → Op.bytesLess a key = true → ∀ k ∈ (wmF key x ps false).map Prod.fst, Op.bytesLess a k = true
  | [], _ => by
    unfold wmF
    simp
  | p :: r, hr => by
    rw [List.map_cons, List.pairwise_cons] at hr
    unfold wmF
    cases hb : Op.bytesLess p.1 key with
    | true =>
      have hne : p.1 ≠ key := less_ne hb
      obtain ⟨h1, h2⟩ := wm_rises key x r hr.2
      simp only [Bool.not_false, Bool.not_true, Bool.and_false, Bool.false_eq_true, if_false, List.nil_append, Bool.or_false, if_pos hne, List.singleton_append, List.map_cons]
      refine ⟨List.pairwise_cons.2 ⟨h2 p.1 hr.1 hb, h1⟩, ?_⟩
      intro a ha hk k hm
      rcases List.mem_cons.1 hm with rfl | hm
      · exact ha _ (by simp)
      · exact h2 a (fun k hk => ha k (by simp [hk])) hk k hm
    | false =>
      simp only [Bool.not_false, Bool.and_true, if_true, Bool.or_true, wm_put, List.append_assoc]
      rw [show (if p.1 ≠ key then [p] else []) ++ r.filter (fun p => decide (p.1 ≠ key)) = (p :: r).filter (fun p => decide (p.1 ≠ key)) by by_cases hp : p.1 = key <;> simp [hp]]
      have hall : ∀ k ∈ ((p :: r).filter (fun p => decide (p.1 ≠ key))).map Prod.fst, Op.bytesLess key k = true := by
        intro k hk
        rw [List.mem_map] at hk
        obtain ⟨q, hq, rfl⟩ := hk
        rw [List.mem_filter] at hq
        have hqn : q.1 ≠ key := by simpa using hq.2
        rcases List.mem_cons.1 hq.1 with rfl | hqr
        · exact less_total _ _ hb hqn
        · by_cases hp : p.1 = key
          · rw [← hp]; exact hr.1 _ (List.mem_map.2 ⟨q, hqr, rfl⟩)
          · exact less_trans _ _ _ (less_total _ _ hb hp) (hr.1 _ (List.mem_map.2 ⟨q, hqr, rfl⟩))
      have hpw : (((p :: r).filter (fun p => decide (p.1 ≠ key))).map Prod.fst).Pairwise (fun a b => Op.bytesLess a b = true) := by
        refine List.Pairwise.sublist ?_ (List.pairwise_cons.2 ⟨hr.1, hr.2⟩)
        exact (List.filter_sublist (l := p :: r)).map Prod.fst
      refine ⟨?_, ?_⟩
      · rw [List.singleton_append, List.map_cons]
        exact List.pairwise_cons.2 ⟨hall, hpw⟩
      · intro a ha hk k hm
        rw [List.singleton_append, List.map_cons] at hm
        rcases List.mem_cons.1 hm with rfl | hm
        · exact hk
        · exact less_trans _ _ _ hk (hall k hm)
theorem zip_maps (ps : List (List UInt8 × V)) : (ps.map Prod.fst).zip (ps.map Prod.snd) = ps := by
  induction ps with
  | nil => rfl
  | cons p ps ih => simp [ih]
theorem zip_fst {a : List (List UInt8)} {b : List V} (h : a.length = b.length) : (a.zip b).map Prod.fst = a := List.map_fst_zip (Nat.le_of_eq h)
theorem wm_with {t : V} (h : Ob t) (key : List UInt8) (x : V) : (⟨5, 0, [], (wmF key x (t.keys.zip t.l) false).map Prod.fst, (wmF key x (t.keys.zip t.l) false).map Prod.snd⟩ : V) = withV t key x := by
  have hz : ((t.keys.zip t.l).map Prod.fst).Pairwise (fun a b => Op.bytesLess a b = true) := by rw [zip_fst h.2.2.2.1]; exact h.2.2.2.2
  have ho : Ob ⟨5, 0, [], (wmF key x (t.keys.zip t.l) false).map Prod.fst, (wmF key x (t.keys.zip t.l) false).map Prod.snd⟩ := ⟨rfl, rfl, rfl, by simp, (wm_rises key x _ hz).1⟩
  refine ob_ext ho (ob_with h key x) fun k => ?_
  rw [memV_look ho.paired]
  show look k (((wmF key x (t.keys.zip t.l) false).map Prod.fst).zip ((wmF key x (t.keys.zip t.l) false).map Prod.snd)) = _
  rw [zip_maps, wm_look key x k _ hz]
  by_cases e : k = key
  · rw [if_pos e, e, mem_with h.paired]
  · rw [if_neg e, mem_other h.paired _ _ _ e, memV_look h.paired]
def woF (key : List UInt8) (ps : List (List UInt8 × V)) : List (List UInt8 × V) := ps.filter fun p => decide (p.1 ≠ key)
theorem wo_without {t : V} (h : Ob t) (key : List UInt8) : (⟨5, 0, [], (woF key (t.keys.zip t.l)).map Prod.fst, (woF key (t.keys.zip t.l)).map Prod.snd⟩ : V) = withoutV t key := by
  have hz : ((t.keys.zip t.l).map Prod.fst).Pairwise (fun a b => Op.bytesLess a b = true) := by rw [zip_fst h.2.2.2.1]; exact h.2.2.2.2
  have ho : Ob ⟨5, 0, [], (woF key (t.keys.zip t.l)).map Prod.fst, (woF key (t.keys.zip t.l)).map Prod.snd⟩ := ⟨rfl, rfl, rfl, by simp, List.Pairwise.sublist ((List.filter_sublist (l := t.keys.zip t.l)).map Prod.fst) hz⟩
  refine ob_ext ho (ob_without h key) fun k => ?_
  rw [memV_look ho.paired]
  show look k (((woF key (t.keys.zip t.l)).map Prod.fst).zip ((woF key (t.keys.zip t.l)).map Prod.snd)) = _
  rw [zip_maps]
  by_cases e : k = key
  · rw [e, mem_without h.paired (List.Pairwise.imp (fun h => less_ne h) h.2.2.2.2)]
    refine look_none fun p hp => ?_
    have := (List.mem_filter.1 hp).2
    simpa using this
  · rw [mem_without_other h e, memV_look h.paired]
    exact look_filter e _
end Go.Proofs.YtfbddgpekbhpfacGreatDoor

set_option linter.unusedSimpArgs false
set_option linter.unusedVariables false
namespace Go.Proofs.YtfbddgpekbhpfacGreatDoor
open Go.RowKit

theorem alloc_here (w : World) (o : Obj) : (w.alloc o).heap[w.heap.size]? = some o := heap_alloc_new w o
theorem h4dd (w : World) (o1 o2 o3 o4 : Obj) : ((((w.alloc o1).alloc o2).alloc o3).alloc o4).heap[w.heap.size + 3]? = some o4 := by
  have h := heap_alloc_new (((w.alloc o1).alloc o2).alloc o3) o4
  have e : (((w.alloc o1).alloc o2).alloc o3).heap.size = w.heap.size + 3 := by simp
  rw [e] at h; exact h
theorem nb_grown {W W' : World} {nb : Nat} {o : Obj} {r : Option Nat} (h : W.heap[nb]? = some o) (hg : W.grownBy W' r) (hr : some nb ≠ r) : W'.heap[nb]? = some o :=
  (hg.block nb (Array.getElem?_eq_some_iff.1 h).1 hr).trans h
theorem OE.drew {w wr : World} {ok : Nat → Prop} {B d : Nat} {ks : List (List UInt8)} {l : List V} {kv lv : Value} (h : OE w ok B d ks l kv lv wr) : OE w ok B d ks l kv lv wr.drew := h.bel (bel_drewN wr 1)
theorem OE.built {w wr : World} {ok : Nat → Prop} {B d : Nat} {ks : List (List UInt8)} {l : List V} {kv lv : Value} (h : OE w ok B d ks l kv lv wr) (o : Obj) : OE w ok B d ks l kv lv (wr.alloc o) ∧ (wr.alloc o).heap[wr.heap.size]? = some o ∧ wr.heap.size ≤ (wr.alloc o).heap.size :=
  ⟨h.bel (bel_alloc _ _), alloc_here _ _, (bel_alloc wr o).size⟩
theorem OE.kown {w wr : World} {ok : Nat → Prop} {B d : Nat} {ks : List (List UInt8)} {l : List V} {kv lv : Value} (h : OE w ok B d ks l kv lv wr) : ∀ g, kv.ownBlock = some g → B ≤ g ∧ g < wr.heap.size := by
  obtain ⟨cs, h1, -⟩ := h; exact fun g e => h1.lt g e
theorem OE.lown {w wr : World} {ok : Nat → Prop} {B d : Nat} {ks : List (List UInt8)} {l : List V} {kv lv : Value} (h : OE w ok B d ks l kv lv wr) : ∀ g, lv.ownBlock = some g → B ≤ g ∧ g < wr.heap.size := by
  obtain ⟨cs, -, h2, -⟩ := h; exact fun g e => h2.lt g e
theorem OE.below {w wr : World} {ok : Nat → Prop} {B d : Nat} {ks : List (List UInt8)} {l : List V} {kv lv : Value} (h : OE w ok B d ks l kv lv wr) : Below w.heap.size w wr := by
  obtain ⟨cs, -, -, -, -, h5, -⟩ := h; exact h5
theorem OE.set {w wr : World} {ok : Nat → Prop} {B d : Nat} {ks : List (List UInt8)} {l : List V} {kv lv : Value} (h : OE w ok B d ks l kv lv wr) {g : Nat} (h1 : w.heap.size ≤ g) (h2 : g < B) (i : Nat) (x : Value) : OE w ok B d ks l kv lv (wr.setCell ⟨g, i, none⟩ x) := by
  obtain ⟨cs, e1, e2, e3, e4, e5, e6⟩ := h
  have hg : wr.grownBy (wr.setCell ⟨g, i, none⟩ x) (some g) := gb_set (gb_refl _ _) _ _
  exact ⟨cs, own_kept' e1 hg h2, own_kept' e2 hg h2, e3.imp fun _ _ h => h.grown hg (fun k hk e => by have := hk.2; simp at e; omega), e4, gb_none (gb_out (gb_below e5) hg h1), e6⟩
theorem own_form {w : World} {B : Nat} {e : TypeId} {size : Nat} {v : Value} {n : Nat} {xs : List Value} (h : w.ownsRow B e size v n xs) : ∃ a c, v = .slice a n c := by
  rcases h.2 with ⟨h1, h2⟩ | ⟨g, cap, cur, h1, -⟩
  · exact ⟨none, 0, by rw [h1, h2]⟩
  · exact ⟨_, _, h1⟩
theorem OE.forms {w wr : World} {ok : Nat → Prop} {B d : Nat} {ks : List (List UInt8)} {l : List V} {kv lv : Value} (h : OE w ok B d ks l kv lv wr) : ∃ a c b e, kv = .slice a ks.length c ∧ lv = .slice b l.length e := by
  obtain ⟨cs, e1, e2, -⟩ := h
  obtain ⟨a, c, h1⟩ := own_form e1
  obtain ⟨b, e, h2⟩ := own_form e2
  exact ⟨a, c, b, e, h1, h2⟩
theorem OE.nil {w wr : World} {ok : Nat → Prop} {B d : Nat} (hb : Below w.heap.size w wr) (hB : w.heap.size ≤ B) : OE w ok B d [] [] (.slice none 0 0) (.slice none 0 0) wr :=
  ⟨[], World.ownsRow_nil _ _ _ _, World.ownsRow_nil _ _ _ _, rfl, by simp [Value.ownBlock], hb, hB⟩
/- The object that is made. -/
theorem OE.made {w wr : World} {ok : Nat → Prop} {B d : Nat} {ks : List (List UInt8)} {l : List V} {kv lv : Value} (h : OE w ok B d ks l kv lv wr) (hk : ∀ x ∈ ks, x.length ≤ maxLen) (h1 : ks.length ≤ 1000001) (h2 : l.length ≤ 1000001) :
    VIs wr (okN ok w.heap.size) (d + 1) ⟨5, 0, [], ks, l⟩ (.agg #[.int .i64 5, .int .i64 0, .string ⟨#[]⟩, kv, lv]) := by
  obtain ⟨cs, e1, e2, e3, e4, e5, e6⟩ := h
  refine ⟨kv, lv, rfl, by unfold I64; simp, by unfold I64; simp, by simp [maxLen], ?_, ?_⟩
  · exact own_strs rfl e1 hk (fun k hk => .inr (by omega)) (show ks.length ≤ maxLen by unfold maxLen; omega)
  · exact own_vals rfl e2 (e3.imp fun _ _ h => h.weak fun k hk => .inl hk.1) (fun k hk => .inr (by omega)) (show l.length ≤ maxLen by unfold maxLen; omega)
/- Boxes that lie below B, and what was there. -/
def SO (w : World) (n : Nat) (F : World → Prop) (kv lv : Value) (W : World) : Prop :=
  BoxIs W (w.heap.size + n) (.int .i64 5) (.int .i64 0) (.string ⟨#[]⟩) kv lv ∧ F W ∧ Below w.heap.size w W
def Stays (B : Nat) (F : World → Prop) : Prop := ∀ W W' r, F W → W.grownBy W' r → (∀ g, r = some g → B ≤ g) → F W'
theorem SO.grown {w : World} {n : Nat} {F : World → Prop} {kv lv : Value} {W W' : World} {r : Option Nat} (hF : Stays (w.heap.size + n + 1) F) (h : SO w n F kv lv W) (hg : W.grownBy W' r) (hr : ∀ g, r = some g → w.heap.size + n + 1 ≤ g) : SO w n F kv lv W' :=
  ⟨h.1.grown hg (fun e => by have := hr _ e.symm; omega), hF _ _ _ h.2.1 hg hr, gb_far h.2.2 hg (fun g e => by have := hr g e; omega)⟩
theorem SO.alloc {w : World} {n : Nat} {F : World → Prop} {kv lv : Value} {W : World} (hF : Stays (w.heap.size + n + 1) F) (h : SO w n F kv lv W) (o : Obj) : SO w n F kv lv (W.alloc o) :=
  h.grown hF (World.grownBy_alloc W o none) (by simp)
theorem SO.drew {w : World} {n : Nat} {F : World → Prop} {kv lv : Value} {W : World} (hF : Stays (w.heap.size + n + 1) F) (h : SO w n F kv lv W) : SO w n F kv lv W.drew :=
  h.grown hF (gb_drew (gb_refl W none)) (by simp)
/- Behind both stores. -/
theorem SO.stored {w : World} {n : Nat} {F : World → Prop} {kv lv kv' lv' : Value} {W : World} (hF : ∀ W i x, F W → F (W.setCell ⟨w.heap.size + n, i, none⟩ x)) (h : SO w n F kv lv W) :
    SO w n F kv' lv' ((W.setCell ⟨w.heap.size + n, 3, none⟩ kv').setCell ⟨w.heap.size + n, 4, none⟩ lv') :=
  ⟨heap_set (heap_set h.1 3 kv') 4 lv', hF _ _ _ (hF _ _ _ h.2.1), gb_none (gb_out (gb_out (gb_below h.2.2) (gb_set (gb_refl _ _) _ _) (by omega)) (gb_set (gb_refl _ _) _ _) (by omega))⟩
theorem bx_stays {B g : Nat} {c0 c1 c2 c3 c4 : Value} (h : g < B) : Stays B (fun W => BoxIs W g c0 c1 c2 c3 c4) := fun W W' r h1 h2 h3 => h1.grown h2 (fun e => by have := h3 _ e.symm; omega)
theorem zip_drop {ks : List (List UInt8)} {l : List V} {k : Nat} (h1 : k < ks.length) (h2 : k < l.length) : (ks.zip l).drop k = (ks[k], l[k]) :: (ks.zip l).drop (k + 1) := by
  have h : k < (ks.zip l).length := by simp; omega
  rw [List.drop_eq_getElem_cons h]; simp
theorem bx_set {W : World} {g g' : Nat} {c0 c1 c2 c3 c4 : Value} (h : BoxIs W g c0 c1 c2 c3 c4) (hne : g ≠ g') (i : Nat) (x : Value) : BoxIs (W.setCell ⟨g', i, none⟩ x) g c0 c1 c2 c3 c4 :=
  h.grown (gb_set (gb_refl W (some g')) i x) (by simpa using hne)
end Go.Proofs.YtfbddgpekbhpfacGreatDoor

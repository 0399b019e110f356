/- What merged of package merge does. -/
import Derived.Test.YtfbddgpekbhpfacGreatDoorXp
import Derived.Test.YtfbddgpekbhpfacGreatDoorXa
import Derived.Deep.DrawnRows
/- Merge, Clean and Diff, plainly. -/
set_option linter.unusedSimpArgs false
set_option linter.unusedVariables false
namespace Go.Proofs.YtfbddgpekbhpfacGreatDoor
open Go.RowKit

/- An object in order. -/
def Ob (t : V) : Prop := t.kind = 5 ∧ t.n = 0 ∧ t.s = [] ∧ t.keys.length = t.l.length ∧ Rises t.keys
theorem Ob.paired {t : V} (h : Ob t) : pairedV t = true := by simp [pairedV, h.1, h.2.2.2.1]
def objT : V := ⟨5, 0, [], [], []⟩
theorem ob_objT : Ob objT := ⟨rfl, rfl, rfl, rfl, List.Pairwise.nil⟩
theorem mem_objT (k : List UInt8) : memV objT k = none := rfl
theorem ob_of {t : V} (hs : shapedB t = true) (hk : t.kind = 5) : Ob t := by
  obtain ⟨h1, h2, h3, h4⟩ := shaped_object hs hk
  simp only [pairedV, Bool.and_eq_true, decide_eq_true_eq] at h1
  exact ⟨hk, h3, h4, h1.2, (rise_pair _ _ h2).2.1⟩
theorem look_mem {k : List UInt8} {ps : List (List UInt8 × V)} {x : V} (h : look k ps = some x) : (k, x) ∈ ps := by
  induction ps with
  | nil => cases h
  | cons p ps ih =>
    rw [look] at h
    split at h
    · rename_i e; cases h; rw [← e]; simp
    · simp [ih h]
theorem look_key {k : List UInt8} {ps : List (List UInt8 × V)} (h : look k ps = none) : ∀ p ∈ ps, p.1 ≠ k := by
  induction ps with
  | nil => intro p hp; cases hp
  | cons q ps ih =>
    rw [look] at h
    split at h
    · cases h
    · rename_i e
      intro p hp
      rcases List.mem_cons.1 hp with rfl | hp
      · exact e
      · exact ih h p hp
/- Rising pairs that answer alike are the same. -/
theorem look_ext : ∀ (a b : List (List UInt8 × V)), (a.map Prod.fst).Pairwise (fun x y => Op.bytesLess x y = true) → (b.map Prod.fst).Pairwise (fun x y => Op.bytesLess x y = true) → (∀ k, look k a = look k b) → a = b
  | [], [], _, _, _ => rfl
  | [], q :: b, _, _, h => by have := h q.1; simp [look] at this
  | p :: a, [], _, _, h => by have := h p.1; simp [look] at this
  | p :: a, q :: b, ha, hb, h => by
    rw [List.map_cons, List.pairwise_cons] at ha hb
    have less : ∀ x y : List UInt8, Op.bytesLess x y = true → Op.bytesLess y x = true → False := fun x y h1 h2 => by
      have := less_trans x y x h1 h2; rw [less_irrefl] at this; cases this
    have hk : p.1 = q.1 := by
      have h1 := h p.1
      have h2 := h q.1
      rw [look, if_pos rfl, look] at h1
      rw [look] at h2
      split at h1
      · rename_i e; exact e.symm
      · rename_i e
        have m1 := look_mem h1.symm
        have l1 := hb.1 p.1 (List.mem_map.2 ⟨_, m1, rfl⟩)
        rw [if_neg (fun e' => e e'.symm), look, if_pos rfl] at h2
        have m2 := look_mem h2
        have l2 := ha.1 q.1 (List.mem_map.2 ⟨_, m2, rfl⟩)
        exact (less _ _ l1 l2).elim
    have hv : p.2 = q.2 := by
      have h1 := h p.1
      rw [look, if_pos rfl, look, if_pos hk.symm] at h1
      exact Option.some.inj h1
    have hp : p = q := Prod.ext hk hv
    subst hp
    congr 1
    refine look_ext a b ha.2 hb.2 fun k => ?_
    have h1 := h k
    rw [look, look] at h1
    by_cases e : p.1 = k
    · have n1 : look k a = none := look_none fun r hr e' => by
        have := ha.1 r.1 (List.mem_map.2 ⟨r, hr, rfl⟩)
        rw [e, ← e', less_irrefl] at this; cases this
      have n2 : look k b = none := look_none fun r hr e' => by
        have := hb.1 r.1 (List.mem_map.2 ⟨r, hr, rfl⟩)
        rw [e, ← e', less_irrefl] at this; cases this
      rw [n1, n2]
    · rwa [if_neg e, if_neg e] at h1
theorem zip_inj {a b : List (List UInt8)} {c d : List V} (h1 : a.length = c.length) (h2 : b.length = d.length) (h : a.zip c = b.zip d) : a = b ∧ c = d := by
  have e1 := congrArg (List.map Prod.fst) h
  have e2 := congrArg (List.map Prod.snd) h
  rw [List.map_fst_zip (by omega), List.map_fst_zip (by omega)] at e1
  rw [List.map_snd_zip (by omega), List.map_snd_zip (by omega)] at e2
  exact ⟨e1, e2⟩
theorem ob_ext {t u : V} (ht : Ob t) (hu : Ob u) (h : ∀ k, memV t k = memV u k) : t = u := by
  have hz : t.keys.zip t.l = u.keys.zip u.l := look_ext _ _
    (by rw [List.map_fst_zip (by have := ht.2.2.2.1; omega)]; exact ht.2.2.2.2)
    (by rw [List.map_fst_zip (by have := hu.2.2.2.1; omega)]; exact hu.2.2.2.2)
    fun k => by rw [← memV_look ht.paired, ← memV_look hu.paired]; exact h k
  obtain ⟨e1, e2⟩ := zip_inj ht.2.2.2.1 hu.2.2.2.1 hz
  rw [← V_eta t, ← V_eta u, ht.1, hu.1, ht.2.1, hu.2.1, ht.2.2.1, hu.2.2.1, e1, e2]
/- With and Without keep the order. -/
theorem less_total : ∀ (a b : List UInt8), Op.bytesLess a b = false → a ≠ b → Op.bytesLess b a = true
  | [], [], _, h => absurd rfl h
  | [], _ :: _, h, _ => by simp [Op.bytesLess] at h
  | _ :: _, [], _, _ => by simp [Op.bytesLess]
  | x :: a, y :: b, h, hne => by
    simp only [Op.bytesLess, Bool.or_eq_false_iff, decide_eq_false_iff_not, Bool.and_eq_false_iff] at h
    simp only [Op.bytesLess, Bool.or_eq_true, Bool.and_eq_true, decide_eq_true_eq, beq_iff_eq]
    by_cases e : x = y
    · subst e
      refine .inr ⟨rfl, less_total a b ?_ (fun e => hne (by rw [e]))⟩
      rcases h.2 with h2 | h2
      · simp at h2
      · exact h2
    · left
      have h1 := h.1
      rw [UInt8.lt_iff_toNat_lt] at *
      have : x.toNat ≠ y.toNat := fun e' => e (UInt8.toNat_inj.1 e')
      omega
theorem ins_rises {key : List UInt8} {ks : List (List UInt8)} (h : Rises ks) (hn : key ∉ ks) : Rises (ks.take (insV key ks) ++ key :: ks.drop (insV key ks)) := by
  unfold Rises at *
  induction ks with
  | nil => simp [insV]
  | cons a ks ih =>
    rw [List.pairwise_cons] at h
    simp only [List.mem_cons, not_or] at hn
    unfold insV
    rw [List.takeWhile_cons]
    split
    · rename_i hl
      simp only [List.length_cons, List.take_succ_cons, List.drop_succ_cons, List.cons_append]
      rw [List.pairwise_cons]
      refine ⟨?_, ih h.2 hn.2⟩
      intro x hx
      rw [List.mem_append] at hx
      rcases hx with hx | hx
      · exact h.1 x (List.mem_of_mem_take hx)
      · rcases List.mem_cons.1 hx with rfl | hx
        · exact hl
        · exact h.1 x (List.mem_of_mem_drop hx)
    · rename_i hl
      simp only [List.length_nil, List.take_zero, List.drop_zero, List.nil_append]
      have hka := less_total _ _ (by simpa using hl) (fun e => hn.1 e.symm)
      rw [List.pairwise_cons]
      refine ⟨?_, List.pairwise_cons.2 h⟩
      intro x hx
      rcases List.mem_cons.1 hx with rfl | hx
      · exact hka
      · exact less_trans _ _ _ hka (h.1 x hx)
theorem ob_with {t : V} (h : Ob t) (k : List UInt8) (x : V) : Ob (withV t k x) := by
  have hp := h.paired
  have hp' := with_paired hp k x
  simp only [pairedV, Bool.and_eq_true, decide_eq_true_eq] at hp'
  refine ⟨hp'.1, ?_, ?_, hp'.2, ?_⟩
  · unfold withV; rw [if_pos hp]; split <;> exact h.2.1
  · unfold withV; rw [if_pos hp]; split <;> exact h.2.2.1
  · unfold withV; rw [if_pos hp]
    split
    · exact h.2.2.2.2
    · rename_i hi
      exact ins_rises h.2.2.2.2 (idxL_not hi)
theorem ob_without {t : V} (h : Ob t) (k : List UInt8) : Ob (withoutV t k) := by
  unfold withoutV
  split
  · rename_i i hi
    obtain ⟨-, -, h1, h2⟩ := findV_some hi
    have hl := h.2.2.2.1
    refine ⟨h.1, h.2.1, h.2.2.1, ?_, h.2.2.2.2.sublist (out_sub _ _)⟩
    simp only [List.length_append, List.length_take, List.length_drop]; omega
  · exact h
theorem mem_without_other {t : V} (h : Ob t) {k k' : List UInt8} (hne : k' ≠ k) : memV (withoutV t k) k' = memV t k' := by
  have ho := ob_without h k
  rw [memV_look ho.paired, memV_look h.paired]
  have hl := h.2.2.2.1
  unfold withoutV at ho ⊢
  cases hi : findV t k with
  | none => rfl
  | some i =>
    obtain ⟨-, h0, h1, h2⟩ := findV_some hi
    have hk := (idxL_lt h0).2
    simp only
    rw [List.zip_append (by simp [hl]), look_append, zip_split t.keys t.l i hl, look_append]
    congr 1
    rw [drop_at hk, List.drop_eq_getElem_cons h1, List.zip_cons_cons, look, if_neg (fun e => hne e.symm)]
theorem without_items (t : V) (k : List UInt8) : (withoutV t k).l.length ≤ t.l.length := by
  unfold withoutV
  split
  · simp only [List.length_append, List.length_take, List.length_drop]; omega
  · omega
/- What steps through the pairs of an object make, if each changes what is of its key alone. -/
theorem fold_ob {step : V → List UInt8 × V → V} (ho : ∀ v p, Ob v → Ob (step v p)) : ∀ (ps : List (List UInt8 × V)) (v : V), Ob v → Ob (ps.foldl step v)
  | [], _, h => h
  | p :: ps, v, h => fold_ob ho ps _ (ho v p h)
theorem fold_far {step : V → List UInt8 × V → V} (ho : ∀ v p, Ob v → Ob (step v p)) (hf : ∀ v p k, Ob v → k ≠ p.1 → memV (step v p) k = memV v k) {k : List UInt8} :
    ∀ (ps : List (List UInt8 × V)) (v : V), Ob v → (∀ p ∈ ps, p.1 ≠ k) → memV (ps.foldl step v) k = memV v k
  | [], _, _, _ => rfl
  | p :: ps, v, h, hn => by
    rw [List.foldl_cons, fold_far ho hf ps _ (ho v p h) fun q hq => hn q (by simp [hq]), hf v p k h fun e => hn p (by simp) e.symm]
theorem fold_mem {step : V → List UInt8 × V → V} {F : List UInt8 → V → Option V → Option V} (ho : ∀ v p, Ob v → Ob (step v p)) (hf : ∀ v p k, Ob v → k ≠ p.1 → memV (step v p) k = memV v k)
    (hs : ∀ v p, Ob v → memV (step v p) p.1 = F p.1 p.2 (memV v p.1)) (k : List UInt8) :
    ∀ (ps : List (List UInt8 × V)) (v : V), Ob v → (ps.map Prod.fst).Nodup → memV (ps.foldl step v) k = match look k ps with | none => memV v k | some x => F k x (memV v k)
  | [], _, _, _ => rfl
  | p :: ps, v, h, hn => by
    rw [List.map_cons, List.nodup_cons] at hn
    rw [List.foldl_cons, look]
    by_cases e : p.1 = k
    · rw [if_pos e, fold_far ho hf ps _ (ho v p h) fun q hq e' => hn.1 (List.mem_map.2 ⟨q, hq, by rw [e', e]⟩)]
      subst e
      exact hs v p h
    · rw [if_neg e, fold_mem ho hf hs k ps _ (ho v p h) hn.2, hf v p k h fun e' => e e'.symm]
theorem ob_nodup {t : V} (h : Ob t) : ((t.keys.zip t.l).map Prod.fst).Nodup := by
  rw [List.map_fst_zip (by have := h.2.2.2.1; omega)]
  exact rises_nodup h.2.2.2.2
/- P4.1: what Merge makes. -/
def stepM (f : V → V → V) (v : V) (p : List UInt8 × V) : V := if p.2.kind = 0 then withoutV v p.1 else withV v p.1 (f ((memV v p.1).getD zeroT) p.2)
def objOf (v : V) : V := if v.kind = 5 then v else objT
def mergeF : Nat → V → V → V
  | 0, _, p => p
  | D + 1, v, p => if p.kind = 5 then (p.keys.zip p.l).foldl (stepM (mergeF D)) (objOf v) else p
theorem stepM_ob (f : V → V → V) (v : V) (p : List UInt8 × V) (h : Ob v) : Ob (stepM f v p) := by
  unfold stepM
  split
  · exact ob_without h _
  · exact ob_with h _ _
theorem stepM_far (f : V → V → V) (v : V) (p : List UInt8 × V) (k : List UInt8) (h : Ob v) (hk : k ≠ p.1) : memV (stepM f v p) k = memV v k := by
  unfold stepM
  split
  · exact mem_without_other h hk
  · exact mem_other h.paired _ _ _ hk
theorem stepM_at (f : V → V → V) (v : V) (p : List UInt8 × V) (h : Ob v) : memV (stepM f v p) p.1 = if p.2.kind = 0 then none else some (f ((memV v p.1).getD zeroT) p.2) := by
  unfold stepM
  split
  · exact mem_without h.paired (rises_nodup h.2.2.2.2) _
  · exact mem_with h.paired _ _
theorem ob_objOf {v : V} (h : v.kind = 5 → Ob v) : Ob (objOf v) := by
  unfold objOf
  split
  · exact h (by assumption)
  · exact ob_objT
theorem merge_ob {D : Nat} {v p : V} (hp : p.kind = 5) (hv : v.kind = 5 → Ob v) : Ob (mergeF (D + 1) v p) := by
  rw [mergeF, if_pos hp]
  exact fold_ob (stepM_ob _) _ _ (ob_objOf hv)
theorem merge_mem {D : Nat} {v p : V} (hp : Ob p) (hv : v.kind = 5 → Ob v) (k : List UInt8) :
    memV (mergeF (D + 1) v p) k = match memV p k with | none => memV (objOf v) k | some x => if x.kind = 0 then none else some (mergeF D ((memV (objOf v) k).getD zeroT) x) := by
  rw [mergeF, if_pos hp.1, fold_mem (F := fun k x m => if x.kind = 0 then none else some (mergeF D (m.getD zeroT) x)) (stepM_ob _) (stepM_far _) (stepM_at _) k _ _ (ob_objOf hv) (ob_nodup hp), ← memV_look hp.paired]
theorem mem_in {t x : V} {k : List UInt8} (h : memV t k = some x) : x ∈ t.l := by
  unfold memV at h
  rw [Option.bind_eq_some_iff] at h
  obtain ⟨i, -, h⟩ := h
  exact List.mem_of_getElem? h
theorem nice_ob {t : V} (h : Nice t) : t.kind = 5 → Ob t := ob_of (nice_shaped h)
theorem nice_zero : Nice zeroT := ⟨1, ⟨rfl, fun x hx => by cases hx⟩, by simp [szD, zeroT]⟩
theorem nice_was {v : V} (h : Nice v) (k : List UInt8) : Nice ((memV (objOf v) k).getD zeroT) := by
  unfold objOf
  split
  · cases hm : memV v k with
    | none => exact nice_zero
    | some x => exact nice_mem h (mem_in hm)
  · exact nice_zero
/- Merged twice it is as merged once. -/
theorem merge_twice : ∀ (D : Nat) (v p : V), GoodT D p → Nice v → mergeF D (mergeF D v p) p = mergeF D v p
  | 0, _, _, h, _ => h.elim
  | D + 1, v, p, h, hv => by
    by_cases hp : p.kind = 5
    · have op := ob_of h.1 hp
      have ox : Ob (mergeF (D + 1) v p) := merge_ob hp (nice_ob hv)
      refine ob_ext (merge_ob hp fun _ => ox) ox fun k => ?_
      rw [merge_mem op (fun _ => ox) k]
      have e0 : objOf (mergeF (D + 1) v p) = mergeF (D + 1) v p := by unfold objOf; rw [if_pos ox.1]
      rw [e0, merge_mem op (nice_ob hv) k]
      cases hm : memV p k with
      | none => rfl
      | some x =>
        simp only
        split
        · rfl
        · simp only [Option.getD_some]
          rw [merge_twice D _ x (h.2 x (mem_in hm)) (nice_was hv k)]
    · have e : ∀ u, mergeF (D + 1) u p = p := fun u => by rw [mergeF, if_neg hp]
      rw [e, e]
theorem merge_kind {D : Nat} {v p : V} (hp : p.kind = 5) (hv : Nice v) : (mergeF (D + 1) v p).kind = 5 := (merge_ob hp (nice_ob hv)).1
/- P4.2: Clean; what is other. -/
def cleanF : Nat → V → Bool
  | 0, _ => true
  | D + 1, t => !decide (t.kind = 5) || t.l.all fun x => !decide (x.kind = 0) && cleanF D x
theorem clean_mem {D : Nat} {t x : V} (h : cleanF (D + 1) t = true) (hk : t.kind = 5) (hx : x ∈ t.l) : x.kind ≠ 0 ∧ cleanF D x = true := by
  simp only [cleanF, hk, decide_true, Bool.not_true, Bool.false_or, List.all_eq_true, Bool.and_eq_true, Bool.not_eq_true', decide_eq_false_iff_not] at h
  exact h x hx
def stepG (b : V) (d : V) (p : List UInt8 × V) : V := if (memV b p.1).isSome then d else withV d p.1 zeroT
def goneV (a b : V) : V := (a.keys.zip a.l).foldl (stepG b) objT
open Classical in
noncomputable def stepD (f : V → V → V) (a d : V) (p : List UInt8 × V) : V :=
  match memV a p.1 with
  | none => withV d p.1 p.2
  | some y => if y = p.2 then d else withV d p.1 (f y p.2)
noncomputable def diffF : Nat → V → V → V
  | 0, _, b => b
  | D + 1, a, b => if a.kind = 5 ∧ b.kind = 5 then (b.keys.zip b.l).foldl (stepD (diffF D) a) (goneV a b) else b
theorem stepG_ob (b v : V) (p : List UInt8 × V) (h : Ob v) : Ob (stepG b v p) := by
  unfold stepG
  split
  · exact h
  · exact ob_with h _ _
theorem stepG_far (b v : V) (p : List UInt8 × V) (k : List UInt8) (h : Ob v) (hk : k ≠ p.1) : memV (stepG b v p) k = memV v k := by
  unfold stepG
  split
  · rfl
  · exact mem_other h.paired _ _ _ hk
theorem stepG_at (b v : V) (p : List UInt8 × V) (h : Ob v) : memV (stepG b v p) p.1 = if (memV b p.1).isSome then memV v p.1 else some zeroT := by
  unfold stepG
  split
  · rfl
  · exact mem_with h.paired _ _
theorem gone_ob (a b : V) : Ob (goneV a b) := fold_ob (stepG_ob b) _ _ ob_objT
theorem gone_mem {a b : V} (ha : Ob a) (k : List UInt8) : memV (goneV a b) k = if (memV a k).isSome ∧ memV b k = none then some zeroT else none := by
  rw [goneV, fold_mem (F := fun k _ m => if (memV b k).isSome then m else some zeroT) (stepG_ob b) (stepG_far b) (stepG_at b) k _ _ ob_objT (ob_nodup ha), ← memV_look ha.paired, mem_objT]
  cases memV a k <;> cases memV b k <;> simp
theorem stepD_ob (f : V → V → V) (a v : V) (p : List UInt8 × V) (h : Ob v) : Ob (stepD f a v p) := by
  unfold stepD
  split
  · exact ob_with h _ _
  · split
    · exact h
    · exact ob_with h _ _
theorem stepD_far (f : V → V → V) (a v : V) (p : List UInt8 × V) (k : List UInt8) (h : Ob v) (hk : k ≠ p.1) : memV (stepD f a v p) k = memV v k := by
  unfold stepD
  split
  · exact mem_other h.paired _ _ _ hk
  · split
    · rfl
    · exact mem_other h.paired _ _ _ hk
open Classical in
theorem stepD_at (f : V → V → V) (a v : V) (p : List UInt8 × V) (h : Ob v) : memV (stepD f a v p) p.1 = match memV a p.1 with | none => some p.2 | some y => if y = p.2 then memV v p.1 else some (f y p.2) := by
  unfold stepD
  cases memV a p.1 with
  | none => exact mem_with h.paired _ _
  | some y =>
    simp only
    split
    · rfl
    · exact mem_with h.paired _ _
theorem diff_ob {D : Nat} {a b : V} (ha : a.kind = 5) (hb : b.kind = 5) : Ob (diffF (D + 1) a b) := by
  rw [diffF, if_pos ⟨ha, hb⟩]
  exact fold_ob (stepD_ob _ _) _ _ (gone_ob a b)
open Classical in
theorem diff_mem {D : Nat} {a b : V} (ha : Ob a) (hb : Ob b) (k : List UInt8) :
    memV (diffF (D + 1) a b) k = match memV b k with
      | none => if (memV a k).isSome then some zeroT else none
      | some x => match memV a k with | none => some x | some y => if y = x then none else some (diffF D y x) := by
  rw [diffF, if_pos ⟨ha.1, hb.1⟩, fold_mem (F := fun k x m => match memV a k with | none => some x | some y => if y = x then m else some (diffF D y x)) (stepD_ob _ _) (stepD_far _ _) (stepD_at _ _) k _ _ (gone_ob a b) (ob_nodup hb), ← memV_look hb.paired, gone_mem ha]
  cases memV b k with
  | none => simp
  | some x =>
    cases memV a k with
    | none => rfl
    | some y => simp
/- What is clean is made of nothing. -/
theorem merge_new : ∀ (D : Nat) (E : Nat) (v x : V), GoodT D x → cleanF D x = true → D ≤ E → v.kind ≠ 5 → mergeF E v x = x
  | 0, _, _, _, h, _, _, _ => h.elim
  | D + 1, 0, _, _, _, _, h, _ => by omega
  | D + 1, E + 1, v, x, h, hc, hE, hv => by
    by_cases hk : x.kind = 5
    · have ox := ob_of h.1 hk
      refine ob_ext (merge_ob hk fun e => absurd e hv) ox fun k => ?_
      rw [merge_mem ox (fun e => absurd e hv)]
      have e0 : objOf v = objT := by unfold objOf; rw [if_neg hv]
      rw [e0, mem_objT]
      cases hm : memV x k with
      | none => rfl
      | some y =>
        have hy := mem_in hm
        obtain ⟨c1, c2⟩ := clean_mem hc hk hy
        simp only [if_neg c1, Option.getD_none]
        rw [merge_new D E zeroT y (h.2 y hy) c2 (by omega) (by decide)]
    · rw [mergeF, if_neg hk]
theorem diff_kind {D : Nat} {a b : V} (h : b.kind ≠ 0) : (diffF D a b).kind ≠ 0 := by
  cases D with
  | zero => exact h
  | succ D =>
    by_cases hk : a.kind = 5 ∧ b.kind = 5
    · rw [(diff_ob hk.1 hk.2).1]; decide
    · rw [diffF, if_neg hk]; exact h
/- What is other, merged into the first, makes the second. -/
theorem merge_diff : ∀ (D E : Nat) (a b : V), GoodT D b → cleanF D b = true → Nice a → D ≤ E → mergeF E a (diffF D a b) = b
  | 0, _, _, _, h, _, _, _ => h.elim
  | D + 1, 0, _, _, _, _, _, h => by omega
  | D + 1, E + 1, a, b, h, hc, ha, hE => by
    by_cases hb : b.kind = 5
    · by_cases hk : a.kind = 5
      · have oa := nice_ob ha hk
        have ob := ob_of h.1 hb
        have od : Ob (diffF (D + 1) a b) := diff_ob hk hb
        refine ob_ext (merge_ob od.1 (nice_ob ha)) ob fun k => ?_
        have e0 : objOf a = a := by unfold objOf; rw [if_pos hk]
        rw [merge_mem od (nice_ob ha), diff_mem oa ob, e0]
        cases hm : memV b k with
        | none =>
          cases hn : memV a k with
          | none => simp
          | some y => simp [zeroT]
        | some x =>
          have hx := mem_in hm
          obtain ⟨c1, c2⟩ := clean_mem hc hb hx
          cases hn : memV a k with
          | none =>
            simp only [if_neg c1, Option.getD_none]
            rw [merge_new D E zeroT x (h.2 x hx) c2 (by omega) (by decide)]
          | some y =>
            by_cases e : y = x
            · simp [e]
            · have := merge_diff D E y x (h.2 x hx) c2 (nice_mem ha (mem_in hn)) (by omega)
              simp [e, diff_kind c1, this]
      · have e : diffF (D + 1) a b = b := by rw [diffF, if_neg (fun h => hk h.1)]
        rw [e]
        exact merge_new (D + 1) (E + 1) a b h hc hE hk
    · have e : diffF (D + 1) a b = b := by rw [diffF, if_neg (fun h => hb h.2)]
      rw [e, mergeF, if_neg hb]
theorem diff_same {D : Nat} {a : V} (oa : Ob a) : diffF (D + 1) a a = objT := by
  refine ob_ext (diff_ob oa.1 oa.1) ob_objT fun k => ?_
  rw [diff_mem oa oa, mem_objT]
  cases memV a k <;> simp
theorem merge_none {D : Nat} {a : V} (hk : a.kind = 5) : mergeF (D + 1) a objT = a := by
  rw [mergeF, if_pos (show objT.kind = 5 from rfl)]
  show List.foldl _ (objOf a) [] = a
  unfold objOf; rw [if_pos hk]; rfl
end Go.Proofs.YtfbddgpekbhpfacGreatDoor

/- Merge of two values: what it is made of, in memory. -/
set_option linter.unusedSimpArgs false
set_option linter.unusedVariables false
namespace Go.Proofs.YtfbddgpekbhpfacGreatDoor
open Go.RowKit

theorem In.key {w : World} {ok : Nat → Prop} {t : V} {k n s ls : Value} {a : Option Addr} {m c i : Nat} (h : In w ok t (.agg #[k, n, s, .slice a m c, ls])) (hi : i < t.keys.length) :
    ∃ b off, a = some ⟨b, off, none⟩ ∧ t.keys.length ≤ c ∧ c ≤ 9223372036854775807 ∧ w.cell? ⟨b, off + i, none⟩ = some (.string ⟨t.keys[i].toArray⟩) ∧ t.keys[i].length ≤ 9223372036854775807 := by
  obtain ⟨d, h⟩ := h.at
  obtain ⟨ks', ls', e, -, -, -, h4, -⟩ := h
  simp only [Value.agg.injEq, Array.mk.injEq, List.cons.injEq, and_true] at e
  obtain ⟨-, -, -, rfl, -⟩ := e
  obtain ⟨-, h4⟩ := h4
  rcases h4 with ⟨e, _⟩ | ⟨b, off, c', e, h1, h2, hcs⟩
  · rw [e] at hi; simp at hi
  · simp only [Value.slice.injEq] at e
    obtain ⟨rfl, -, rfl⟩ := e
    obtain ⟨g1, -, g3⟩ := hcs i t.keys[i] (List.getElem?_eq_getElem hi)
    exact ⟨b, off, rfl, h1, h2, g3, g1⟩
theorem member_was (w : World) (ok : Nat → Prop) (t : V) (v : Value) (key : List UInt8) (h : In w ok t v) :
    Calls Tryz.prog 23 #[v, str key] w fun e w' => ∃ x, e = .returned (.tuple #[x, .bool (memV t key).isSome]) ∧ Below w.heap.size w w' ∧ In w' ok ((memV t key).getD zeroT) x := by
  obtain ⟨d, h⟩ := h
  refine (member_at w ok d t v key h).mono ?_
  rintro e w' ⟨x, b, rfl, hb, hm⟩
  cases hq : memV t key with
  | none => rw [hq] at hm; rw [hm.1, hm.2]; exact ⟨_, rfl, hb, in_zero w' ok⟩
  | some y => rw [hq] at hm; rw [hm.1]; exact ⟨_, rfl, hb, hm.2.is⟩
theorem sto_out {w w1 : World} {ok : Nat → Prop} {C : Nat} {t : V} {g : Nat} {v0 v1 v2 v3 v4 : Value} (h : In w1 (lowN ok w.heap.size C) t (.agg #[v0, v1, v2, v3, v4])) (hb : Below w.heap.size w w1) (hg : w.heap.size ≤ g) (hC : g < C) :
    Below w.heap.size w (set5 w1 g v0 v1 v2 v3 v4) ∧ In (set5 w1 g v0 v1 v2 v3 v4) (okN ok w.heap.size) t (.agg #[v0, v1, v2, v3, v4]) :=
  ⟨bel_set5 hb hg _ _ _ _ _, (h.box hg hC _ _ _ _ _).weak (lowN_out (by omega))⟩
theorem be0 {w W : World} (e1 : W.heap = w.heap) (e2 : W.os = w.os) (e3 : W.tape = w.tape) (e4 : W.output = w.output) : Below w.heap.size w W := ⟨e2, e3, e4, by rw [e1]; exact Nat.le_refl _, fun k _ => by rw [e1]⟩
theorem lowN_up {ok : Nat → Prop} {B C H : Nat} (h : C ≤ H) : ∀ k, okN (lowN ok B C) H k → lowN ok B C k := by
  intro k hk
  rcases hk with hk | hk
  · exact hk
  · exact .inr (by omega)
/- On the way through the members. -/
theorem fold_len {f : V → V → V} : ∀ (ps : List (List UInt8 × V)) (v : V), (ps.foldl (stepM f) v).l.length ≤ v.l.length + ps.length
  | [], v => by simp
  | p :: ps, v => by
    have h1 := fold_len (f := f) ps (stepM f v p)
    have h2 : (stepM f v p).l.length ≤ v.l.length + 1 := by
      unfold stepM
      split
      · have := without_items v p.1; omega
      · exact with_items _ _ _
    rw [List.foldl_cons, List.length_cons]; omega
theorem objOf_len {v : V} (h : Nice v) : (objOf v).l.length ≤ 120 := by
  unfold objOf
  split
  · exact nice_len h
  · simp [objT]
theorem zip_at {a : List (List UInt8)} {b : List V} {k : Nat} (h : k < a.length) (h' : k < b.length) : (a.zip b)[k]'(by rw [List.length_zip]; omega) = (a[k], b[k]) := by simp
theorem zip_step {β : Type} {g : β → List UInt8 × V → β} {a : List (List UInt8)} {b : List V} {k : Nat} {v : β} (h : k < a.length) (h' : k < b.length) : ((a.zip b).take (k + 1)).foldl g v = g (((a.zip b).take k).foldl g v) (a[k], b[k]) := by
  rw [List.take_succ_eq_append_getElem (by rw [List.length_zip]; omega), List.foldl_append, zip_at h h']; rfl
theorem take_keys {a : List (List UInt8)} {b : List V} {k : Nat} (hd : a.Nodup) (h : k < a.length) : ∀ p ∈ (a.zip b).take k, p.1 ≠ a[k] := by
  intro p hp e
  have ez : (a.zip b).take k = (a.take k).zip (b.take k) := by simp [List.zip, List.take_zipWith]
  rw [ez] at hp
  have h1 := (List.of_mem_zip hp).1
  rw [e] at h1
  obtain ⟨i, hi⟩ := List.getElem?_of_mem h1
  rw [List.getElem?_take] at hi
  split at hi
  · rename_i hik
    have h2 := (List.getElem?_eq_some_iff.1 hi)
    exact List.pairwise_iff_getElem.1 hd i k h2.1 h hik h2.2
  · cases hi
theorem merge_at {E : Nat} {v p : V} {k : Nat} (hv : Nice v) (op : Ob p) (hk : k < p.keys.length) :
    Ob (((p.keys.zip p.l).take k).foldl (stepM (mergeF E)) (objOf v)) ∧ memV (((p.keys.zip p.l).take k).foldl (stepM (mergeF E)) (objOf v)) p.keys[k] = memV (objOf v) p.keys[k] := by
  have o0 := ob_objOf (nice_ob hv)
  exact ⟨fold_ob (stepM_ob _) _ _ o0, fold_far (stepM_ob _) (stepM_far _) _ _ o0 (take_keys (rises_nodup op.2.2.2.2) hk)⟩
theorem merge_len {E : Nat} {v p : V} {k : Nat} (hv : Nice v) (hp : Nice p) : (((p.keys.zip p.l).take k).foldl (stepM (mergeF E)) (objOf v)).l.length ≤ 240 := by
  have h1 := fold_len (f := mergeF E) ((p.keys.zip p.l).take k) (objOf v)
  have h2 := objOf_len hv
  have h3 := nice_len hp
  have h4 : ((p.keys.zip p.l).take k).length ≤ p.l.length := by rw [List.length_take, List.length_zip]; omega
  omega
end Go.Proofs.YtfbddgpekbhpfacGreatDoor

set_option linter.unusedSimpArgs false
set_option linter.unusedVariables false
namespace Go.Proofs.YtfbddgpekbhpfacGreatDoor
open Go.RowKit
attribute [local go_sem ↓] Go.wp_at_zero Go.wp_at_succ

def MgC (E : Nat) : Prop := ∀ (w : World) (ok : Nat → Prop) (v p : V) (vv pv : Value), In w ok v vv → In w ok p pv → Nice v → Nice p → Dep E p →
  Calls Tryz.prog 14 #[vv, pv] w fun e w' => ∃ r, e = .returned r ∧ Below w.heap.size w w' ∧ In w' (okN ok w.heap.size) (mergeF E v p) r
def MgI (w : World) (ok : Nat → Prop) (E : Nat) (v p : V) (a3 a4 : Option Addr) (c3 c4 k : Nat) (wr : World) : Prop :=
  ∃ (y : V) (a5 a6 : Option Addr) (c5 c6 : Nat), y = ((p.keys.zip p.l).take k).foldl (stepM (mergeF E)) (objOf v) ∧ BoxIs wr w.heap.size (.int .i64 y.kind) (.int .i64 y.n) (.string ⟨y.s.toArray⟩) (.slice a5 y.keys.length c5) (.slice a6 y.l.length c6) ∧ BoxIs wr (w.heap.size + 1) (.int .i64 p.kind) (.int .i64 p.n) (.string ⟨p.s.toArray⟩) (.slice a3 p.keys.length c3) (.slice a4 p.l.length c4) ∧ BoxIs wr (w.heap.size + 2) (.int .i64 0) (.int .i64 0) (.string ⟨#[]⟩) (.slice none 0 0) (.slice none 0 0) ∧ Below w.heap.size w wr ∧ In wr (lowN ok w.heap.size (w.heap.size + 3)) y (.agg #[.int .i64 y.kind, .int .i64 y.n, .string ⟨y.s.toArray⟩, .slice a5 y.keys.length c5, .slice a6 y.l.length c6])

set_option maxRecDepth 100000 in
set_option maxHeartbeats 40000000 in
theorem merged_succ (E : Nat) (ih : MgC E) : MgC (E + 1) := by
  intro w ok v p vv pv h hp nv np hd
  have H := hidI h.low
  have HP := hidI hp.low
  have NV := hidI nv
  have NP := hidI np
  have HD := hidI hd
  have IH := hidI ih
  obtain ⟨l1, l2, l3⟩ := h.lens
  obtain ⟨l4, l5, l6⟩ := hp.lens
  obtain ⟨a1, a2, c1, c2, rfl⟩ := h.form
  obtain ⟨a3, a4, c3, c4, rfl⟩ := hp.form
  clear h hp ih nv np hd
  have B3 : Hid (∀ o1 o2 o3, Below w.heap.size w (((w.alloc o1).alloc o2).alloc o3)) := fun o1 o2 o3 => bel_trans (bel_trans (bel_alloc _ _) (bel_alloc _ _)) (bel_alloc _ _)
  by_cases hk : p.kind = 5
  · have e0 : (p.kind != 5) = false := by rw [hk]; rfl
    have OP : Hid (Ob p) := hidI (nice_ob NP.out hk)
    have HM : Hid (mergeF (E + 1) v p = (p.keys.zip p.l).foldl (stepM (mergeF E)) (objOf v)) := hidI (by rw [mergeF, if_pos hk])
    have HKL : Hid (p.keys.length = p.l.length) := hidI OP.out.2.2.2.1
    have HK := hidI hk
    clear hk
    go_enter Tryz.func14, Tryz.ntmps14
    go_upto_if 15 with fail
    go_cut [] (fun wc => MgI w ok E v p a3 a4 c3 c4 0 wc)
    case first =>
      by_cases hv5 : v.kind = 5
      · have e1 : (v.kind != 5) = false := by rw [hv5]; rfl
        have HV : Hid (objOf v = v) := hidI (by unfold objOf; rw [if_pos hv5])
        clear hv5
        go_wp2_with fail
        go_meet
        case rel => exact ⟨v, a1, a2, c1, c2, HV.out.symm, h3a w _ _ _, h3b w _ _ _, h3c w _ _ _, B3.out _ _ _, (H.out.bel (B3.out _ _ _)).weak lowN_low⟩
      · have e1 : (v.kind != 5) = true := by rw [bne_iff_ne]; exact hv5
        have HV : Hid (objOf v = objT) := hidI (by unfold objOf; rw [if_neg hv5])
        clear hv5
        go_wp2_with fail
        go_meet
        case rel => exact ⟨objT, none, none, 0, 0, HV.out.symm, h3a w _ _ _, h3b w _ _ _, h3c w _ _ _, B3.out _ _ _, in_leaf _ _ 5 0 (by unfold I64; omega) (by unfold I64; omega)⟩
    case rest =>
      have I0 := hidI hcut
      obtain ⟨y, a5, a6, c5, c6, -, -, i2, -⟩ := hcut
      obtain ⟨p0, p1, p2, p3, p4, -⟩ := i2.c
      clear i2
      go_wp2_with fail
      go_loopg [20] p.keys.length (fun gk i wr => ∃ k : Nat, k ≤ p.keys.length ∧ gk = p.keys.length - k ∧ i = .int .i64 k ∧ MgI w ok E v p a3 a4 c3 c4 k wr)
      case atStart => exact ⟨0, Nat.zero_le _, rfl, rfl, I0.out⟩
      case round =>
        obtain ⟨k, hk, hgk, rfl, y, a5, a6, c5, c6, i0, i1, i2, i3, i4, i5⟩ := hrel
        have GK := hidI hgk
        have I : Hid (y = ((p.keys.zip p.l).take k).foldl (stepM (mergeF E)) (objOf v) ∧ BoxIs wr w.heap.size (.int .i64 y.kind) (.int .i64 y.n) (.string ⟨y.s.toArray⟩) (.slice a5 y.keys.length c5) (.slice a6 y.l.length c6) ∧ BoxIs wr (w.heap.size + 1) (.int .i64 p.kind) (.int .i64 p.n) (.string ⟨p.s.toArray⟩) (.slice a3 p.keys.length c3) (.slice a4 p.l.length c4) ∧ BoxIs wr (w.heap.size + 2) (.int .i64 0) (.int .i64 0) (.string ⟨#[]⟩) (.slice none 0 0) (.slice none 0 0) ∧ Below w.heap.size w wr ∧ In wr (lowN ok w.heap.size (w.heap.size + 3)) y (.agg #[.int .i64 y.kind, .int .i64 y.n, .string ⟨y.s.toArray⟩, .slice a5 y.keys.length c5, .slice a6 y.l.length c6])) := hidI ⟨i0, i1, i2, i3, i4, i5⟩
        have hwsz := i3.lt
        obtain ⟨p0, p1, p2, p3, p4, -⟩ := i2.c
        obtain ⟨y0, y1, y2, y3, y4, x0, x1, x2, x3, x4⟩ := i1.c
        clear hgk i0 i1 i2 i3 i4 i5
        by_cases hlt : k < p.keys.length
        · have hlt' : k < p.l.length := by have := HKL.out; omega
          obtain ⟨kb, ko, rfl, j1, j2, jk, jl⟩ := HP.out.key hlt
          obtain ⟨xb, xo, b5, d5, b6, d6, rfl, j3, j4, g0, g1, g2, g3, g4, g5⟩ := HP.out.item hlt'
          replace jk := cell_bel I.out.2.2.2.2.1 jk
          replace g0 := cell_bel I.out.2.2.2.2.1 g0
          replace g1 := cell_bel I.out.2.2.2.2.1 g1
          replace g2 := cell_bel I.out.2.2.2.2.1 g2
          replace g3 := cell_bel I.out.2.2.2.2.1 g3
          replace g4 := cell_bel I.out.2.2.2.2.1 g4
          have G5 := hidI (g5.bel I.out.2.2.2.2.1)
          have MA : Hid (Ob y ∧ memV y p.keys[k] = memV (objOf v) p.keys[k]) := hidI (by rw [I.out.1]; exact merge_at NV.out OP.out hlt)
          have ML : Hid (y.l.length ≤ 240) := hidI (by rw [I.out.1]; exact merge_len NV.out NP.out)
          have ST : Hid (∀ u, u = stepM (mergeF E) y (p.keys[k], p.l[k]) → u = ((p.keys.zip p.l).take (k + 1)).foldl (stepM (mergeF E)) (objOf v)) := hidI (by rintro u rfl; rw [zip_step hlt hlt', ← I.out.1])
          have w1 : (0 : Int) ≤ (k : Int) := by omega
          have w2 : (k : Int) < (p.l.length : Int) := by omega
          have w3 : (k : Int) < (p.keys.length : Int) := by omega
          clear g5
          by_cases hn : p.l[k].kind = 0
          · have e1 : (p.l[k].kind == 0) = true := by rw [hn]; rfl
            have HN := hidI hn
            clear hn
            go_wp2_with fail
            refine (without_is _ (lowN ok w.heap.size (w.heap.size + 3)) y _ p.keys[k] (by exact I.out.2.2.2.2.2) (by have := ML.out; omega)).mono ?_
            rintro e w4 ⟨r, rfl, hr, hb4⟩
            obtain ⟨u, hu⟩ : ∃ u, withoutV y p.keys[k] = u := ⟨_, rfl⟩
            rw [hu] at hr
            obtain ⟨e5, e6, f5, f6, rfl⟩ := hr.form
            have K : Hid (BoxIs w4 w.heap.size (.int .i64 y.kind) (.int .i64 y.n) (.string ⟨y.s.toArray⟩) (.slice a5 y.keys.length c5) (.slice a6 y.l.length c6) ∧ BoxIs w4 (w.heap.size + 1) (.int .i64 p.kind) (.int .i64 p.n) (.string ⟨p.s.toArray⟩) (.slice (some ⟨kb, ko, none⟩) p.keys.length c3) (.slice (some ⟨xb, xo, none⟩) p.l.length c4) ∧ BoxIs w4 (w.heap.size + 2) (.int .i64 0) (.int .i64 0) (.string ⟨#[]⟩) (.slice none 0 0) (.slice none 0 0) ∧ Below w.heap.size w w4 ∧ In w4 (lowN ok w.heap.size (w.heap.size + 3)) u (.agg #[.int .i64 u.kind, .int .i64 u.n, .string ⟨u.s.toArray⟩, .slice e5 u.keys.length f5, .slice e6 u.l.length f6])) := hidI ⟨box_bel hb4 I.out.2.1, box_bel hb4 I.out.2.2.1, box_bel hb4 I.out.2.2.2.1, bel_trans I.out.2.2.2.2.1 hb4, hr.weak (lowN_up hwsz)⟩
            have FIN : Hid (MgI w ok E v p (some ⟨kb, ko, none⟩) (some ⟨xb, xo, none⟩) c3 c4 (k + 1) (set5 w4 w.heap.size (.int .i64 u.kind) (.int .i64 u.n) (.string ⟨u.s.toArray⟩) (.slice e5 u.keys.length f5) (.slice e6 u.l.length f6))) := by
              have gs := set5_gb w4 w.heap.size (.int .i64 u.kind) (.int .i64 u.n) (.string ⟨u.s.toArray⟩) (.slice e5 u.keys.length f5) (.slice e6 u.l.length f6)
              refine hidI ⟨u, e5, e6, f5, f6, ST.out u (by rw [← hu, stepM, if_pos HN.out]), K.out.1.set _ _ _ _ _, K.out.2.1.grown gs (by simp), K.out.2.2.1.grown gs (by simp), bel_set5 K.out.2.2.2.1 (Nat.le_refl _) _ _ _ _ _, K.out.2.2.2.2.box (Nat.le_refl _) (by omega) _ _ _ _ _⟩
            clear hu hr hb4 p0 p1 p2 p3 p4 y0 y1 y2 y3 y4 x0 x1 x2 x3 x4
            obtain ⟨y0, y1, y2, y3, y4, x0, x1, x2, x3, x4⟩ := K.out.1.c
            go_wp2_with fail
            go_roundg (p.keys.length - (k + 1))
            case measure => rw [GK.out]; omega
            case rel => exact ⟨k + 1, hlt, rfl, by go_num, FIN.out⟩
          · have e1 : (p.l[k].kind == 0) = false := by rw [beq_eq_false_iff_ne]; exact hn
            have HN := hidI hn
            clear hn
            go_wp2_with fail
            refine (member_was _ (lowN ok w.heap.size (w.heap.size + 3)) y _ p.keys[k] (by exact I.out.2.2.2.2.2)).mono ?_
            rintro e w4 ⟨r, rfl, hb4, hr⟩
            obtain ⟨q, hq⟩ : ∃ q, (memV y p.keys[k]).getD zeroT = q := ⟨_, rfl⟩
            rw [hq] at hr
            have NQ : Hid (Nice q) := hidI (by rw [← hq, MA.out.2]; exact nice_was NV.out _)
            have HQ := hidI hq
            obtain ⟨mb, hmb⟩ : ∃ mb, (memV y p.keys[k]).isSome = mb := ⟨_, rfl⟩
            rw [hmb]
            obtain ⟨a7, a8, c7, c8, rfl⟩ := hr.form
            have hbb := bel_trans hb4 (bel_alloc w4 (.cells #[.int .i64 q.kind, .int .i64 q.n, .string ⟨q.s.toArray⟩, .slice a7 q.keys.length c7, .slice a8 q.l.length c8] 25))
            have K : Hid (BoxIs (w4.alloc (.cells #[.int .i64 q.kind, .int .i64 q.n, .string ⟨q.s.toArray⟩, .slice a7 q.keys.length c7, .slice a8 q.l.length c8] 25)) w.heap.size (.int .i64 y.kind) (.int .i64 y.n) (.string ⟨y.s.toArray⟩) (.slice a5 y.keys.length c5) (.slice a6 y.l.length c6) ∧ BoxIs (w4.alloc (.cells #[.int .i64 q.kind, .int .i64 q.n, .string ⟨q.s.toArray⟩, .slice a7 q.keys.length c7, .slice a8 q.l.length c8] 25)) (w.heap.size + 1) (.int .i64 p.kind) (.int .i64 p.n) (.string ⟨p.s.toArray⟩) (.slice (some ⟨kb, ko, none⟩) p.keys.length c3) (.slice (some ⟨xb, xo, none⟩) p.l.length c4) ∧ BoxIs (w4.alloc (.cells #[.int .i64 q.kind, .int .i64 q.n, .string ⟨q.s.toArray⟩, .slice a7 q.keys.length c7, .slice a8 q.l.length c8] 25)) (w.heap.size + 2) (.int .i64 0) (.int .i64 0) (.string ⟨#[]⟩) (.slice none 0 0) (.slice none 0 0) ∧ BoxIs (w4.alloc (.cells #[.int .i64 q.kind, .int .i64 q.n, .string ⟨q.s.toArray⟩, .slice a7 q.keys.length c7, .slice a8 q.l.length c8] 25)) w4.heap.size (.int .i64 q.kind) (.int .i64 q.n) (.string ⟨q.s.toArray⟩) (.slice a7 q.keys.length c7) (.slice a8 q.l.length c8) ∧ Below w.heap.size w (w4.alloc (.cells #[.int .i64 q.kind, .int .i64 q.n, .string ⟨q.s.toArray⟩, .slice a7 q.keys.length c7, .slice a8 q.l.length c8] 25)) ∧ In (w4.alloc (.cells #[.int .i64 q.kind, .int .i64 q.n, .string ⟨q.s.toArray⟩, .slice a7 q.keys.length c7, .slice a8 q.l.length c8] 25)) (lowN ok w.heap.size (w.heap.size + 3)) y (.agg #[.int .i64 y.kind, .int .i64 y.n, .string ⟨y.s.toArray⟩, .slice a5 y.keys.length c5, .slice a6 y.l.length c6]) ∧ In (w4.alloc (.cells #[.int .i64 q.kind, .int .i64 q.n, .string ⟨q.s.toArray⟩, .slice a7 q.keys.length c7, .slice a8 q.l.length c8] 25)) (lowN ok w.heap.size (w.heap.size + 3)) q (.agg #[.int .i64 q.kind, .int .i64 q.n, .string ⟨q.s.toArray⟩, .slice a7 q.keys.length c7, .slice a8 q.l.length c8]) ∧ w.heap.size + 3 ≤ (w4.alloc (.cells #[.int .i64 q.kind, .int .i64 q.n, .string ⟨q.s.toArray⟩, .slice a7 q.keys.length c7, .slice a8 q.l.length c8] 25)).heap.size) := hidI ⟨box_bel hbb I.out.2.1, box_bel hbb I.out.2.2.1, box_bel hbb I.out.2.2.2.1, heap_alloc_new w4 _, bel_trans I.out.2.2.2.2.1 hbb, I.out.2.2.2.2.2.bel hbb, hr.bel (bel_alloc _ _), Nat.le_trans hwsz hbb.size⟩
            replace g0 := cell_bel hbb g0
            replace g1 := cell_bel hbb g1
            replace g2 := cell_bel hbb g2
            replace g3 := cell_bel hbb g3
            replace g4 := cell_bel hbb g4
            have X4 : Hid (In (w4.alloc (.cells #[.int .i64 q.kind, .int .i64 q.n, .string ⟨q.s.toArray⟩, .slice a7 q.keys.length c7, .slice a8 q.l.length c8] 25)) (lowN ok w.heap.size (w.heap.size + 3)) p.l[k] (.agg #[.int .i64 p.l[k].kind, .int .i64 p.l[k].n, .string ⟨p.l[k].s.toArray⟩, .slice b5 p.l[k].keys.length d5, .slice b6 p.l[k].l.length d6])) := hidI ((G5.out.bel hbb).weak lowN_low)
            have conM : Hid (∀ W, W.heap = (w4.alloc (.cells #[.int .i64 q.kind, .int .i64 q.n, .string ⟨q.s.toArray⟩, .slice a7 q.keys.length c7, .slice a8 q.l.length c8] 25)).heap → W.os = w4.os → W.tape = w4.tape → W.output = w4.output → Calls Tryz.prog 14 #[.agg #[.int .i64 q.kind, .int .i64 q.n, .string ⟨q.s.toArray⟩, .slice a7 q.keys.length c7, .slice a8 q.l.length c8], .agg #[.int .i64 p.l[k].kind, .int .i64 p.l[k].n, .string ⟨p.l[k].s.toArray⟩, .slice b5 p.l[k].keys.length d5, .slice b6 p.l[k].l.length d6]] W fun e w5 => ∃ (z : V) (b7 b8 : Option Addr) (d7 d8 : Nat), e = .returned (.agg #[.int .i64 z.kind, .int .i64 z.n, .string ⟨z.s.toArray⟩, .slice b7 z.keys.length d7, .slice b8 z.l.length d8]) ∧ z = mergeF E q p.l[k] ∧ Below (w4.alloc (.cells #[.int .i64 q.kind, .int .i64 q.n, .string ⟨q.s.toArray⟩, .slice a7 q.keys.length c7, .slice a8 q.l.length c8] 25)).heap.size (w4.alloc (.cells #[.int .i64 q.kind, .int .i64 q.n, .string ⟨q.s.toArray⟩, .slice a7 q.keys.length c7, .slice a8 q.l.length c8] 25)) w5 ∧ In w5 (lowN ok w.heap.size (w.heap.size + 3)) z (.agg #[.int .i64 z.kind, .int .i64 z.n, .string ⟨z.s.toArray⟩, .slice b7 z.keys.length d7, .slice b8 z.l.length d8])) := by
              intro W e1 e2 e3 e4
              have hbW : Below (w4.alloc (.cells #[.int .i64 q.kind, .int .i64 q.n, .string ⟨q.s.toArray⟩, .slice a7 q.keys.length c7, .slice a8 q.l.length c8] 25)).heap.size (w4.alloc (.cells #[.int .i64 q.kind, .int .i64 q.n, .string ⟨q.s.toArray⟩, .slice a7 q.keys.length c7, .slice a8 q.l.length c8] 25)) W := be0 e1 e2 e3 e4
              refine (IH.out W (lowN ok w.heap.size (w.heap.size + 3)) q p.l[k] _ _ (K.out.2.2.2.2.2.2.1.bel hbW) (X4.out.bel hbW) NQ.out (nice_mem NP.out (List.getElem_mem hlt')) (HD.out _ (List.getElem_mem hlt'))).mono ?_
              rintro e w5 ⟨r, rfl, hb, hr⟩
              obtain ⟨b7, b8, d7, d8, rfl⟩ := hr.form
              exact ⟨_, b7, b8, d7, d8, rfl, rfl, bel_trans hbW hb, hr.weak (lowN_up (Nat.le_trans K.out.2.2.2.2.2.2.2 hbW.size))⟩
            have conW : Hid (∀ (w5 : World) (z : V) (b7 b8 : Option Addr) (d7 d8 : Nat), Below (w4.alloc (.cells #[.int .i64 q.kind, .int .i64 q.n, .string ⟨q.s.toArray⟩, .slice a7 q.keys.length c7, .slice a8 q.l.length c8] 25)).heap.size (w4.alloc (.cells #[.int .i64 q.kind, .int .i64 q.n, .string ⟨q.s.toArray⟩, .slice a7 q.keys.length c7, .slice a8 q.l.length c8] 25)) w5 → In w5 (lowN ok w.heap.size (w.heap.size + 3)) z (.agg #[.int .i64 z.kind, .int .i64 z.n, .string ⟨z.s.toArray⟩, .slice b7 z.keys.length d7, .slice b8 z.l.length d8]) → ∀ W, W.heap = w5.heap → W.os = w5.os → W.tape = w5.tape → W.output = w5.output → Calls Tryz.prog 24 #[.agg #[.int .i64 y.kind, .int .i64 y.n, .string ⟨y.s.toArray⟩, .slice a5 y.keys.length c5, .slice a6 y.l.length c6], .string ⟨p.keys[k].toArray⟩, .agg #[.int .i64 z.kind, .int .i64 z.n, .string ⟨z.s.toArray⟩, .slice b7 z.keys.length d7, .slice b8 z.l.length d8]] W fun e w6 => ∃ (u : V) (e5 e6 : Option Addr) (f5 f6 : Nat), e = .returned (.agg #[.int .i64 u.kind, .int .i64 u.n, .string ⟨u.s.toArray⟩, .slice e5 u.keys.length f5, .slice e6 u.l.length f6]) ∧ u = withV y p.keys[k] z ∧ Below w5.heap.size w5 w6 ∧ In w6 (lowN ok w.heap.size (w.heap.size + 3)) u (.agg #[.int .i64 u.kind, .int .i64 u.n, .string ⟨u.s.toArray⟩, .slice e5 u.keys.length f5, .slice e6 u.l.length f6])) := by
              intro w5 z b7 b8 d7 d8 hb5 hz W e1 e2 e3 e4
              have hbW : Below w5.heap.size w5 W := be0 e1 e2 e3 e4
              refine (with_is W (lowN ok w.heap.size (w.heap.size + 3)) y z _ _ p.keys[k] ((K.out.2.2.2.2.2.1.bel hb5).bel hbW) (hz.bel hbW) MA.out.1.paired (by have := ML.out; omega) jl).mono ?_
              rintro e w6 ⟨r, rfl, hr, hb⟩
              obtain ⟨e5, e6, f5, f6, rfl⟩ := hr.form
              exact ⟨_, e5, e6, f5, f6, rfl, rfl, bel_trans hbW hb, hr.weak (lowN_up (Nat.le_trans K.out.2.2.2.2.2.2.2 (Nat.le_trans hb5.size hbW.size)))⟩
            have FIN : Hid (∀ (w5 w6 : World) (z u : V) (e5 e6 : Option Addr) (f5 f6 : Nat), Below (w4.alloc (.cells #[.int .i64 q.kind, .int .i64 q.n, .string ⟨q.s.toArray⟩, .slice a7 q.keys.length c7, .slice a8 q.l.length c8] 25)).heap.size (w4.alloc (.cells #[.int .i64 q.kind, .int .i64 q.n, .string ⟨q.s.toArray⟩, .slice a7 q.keys.length c7, .slice a8 q.l.length c8] 25)) w5 → z = mergeF E q p.l[k] → Below w5.heap.size w5 w6 → u = withV y p.keys[k] z → In w6 (lowN ok w.heap.size (w.heap.size + 3)) u (.agg #[.int .i64 u.kind, .int .i64 u.n, .string ⟨u.s.toArray⟩, .slice e5 u.keys.length f5, .slice e6 u.l.length f6]) → MgI w ok E v p (some ⟨kb, ko, none⟩) (some ⟨xb, xo, none⟩) c3 c4 (k + 1) (set5 w6 w.heap.size (.int .i64 u.kind) (.int .i64 u.n) (.string ⟨u.s.toArray⟩) (.slice e5 u.keys.length f5) (.slice e6 u.l.length f6))) := by
              intro w5 w6 z u e5 e6 f5 f6 hb5 hz hb6 hu hr
              have hbb := bel_trans hb5 hb6
              have gs := set5_gb w6 w.heap.size (.int .i64 u.kind) (.int .i64 u.n) (.string ⟨u.s.toArray⟩) (.slice e5 u.keys.length f5) (.slice e6 u.l.length f6)
              refine ⟨u, e5, e6, f5, f6, ST.out u (by rw [hu, hz, ← HQ.out, stepM, if_neg HN.out]), (box_bel hbb K.out.1).set _ _ _ _ _, (box_bel hbb K.out.2.1).grown gs (by simp), (box_bel hbb K.out.2.2.1).grown gs (by simp), bel_set5 (bel_trans K.out.2.2.2.2.1 hbb) (Nat.le_refl _) _ _ _ _ _, hr.box (Nat.le_refl _) (by omega) _ _ _ _ _⟩
            clear hq hmb hr hb4 hbb p0 p1 p2 p3 p4 y0 y1 y2 y3 y4 x0 x1 x2 x3 x4 jk
            obtain ⟨y0, y1, y2, y3, y4, -⟩ := K.out.1.c
            have p4 := K.out.2.1.c.2.2.2.2.1
            obtain ⟨q0, q1, q2, q3, q4, -⟩ := K.out.2.2.2.1.c
            go_wp2_with fail
            go_region_with (first
              | (go_at_call 14; refine (conM.out _ (by rfl) (by rfl) (by rfl) (by rfl)).mono ?_; rintro e w5 ⟨z, b7, b8, d7, d8, rfl, hz1, hz2, hz3⟩; have Z1 := hidI hz1; have Z2 := hidI hz2; have Z3 := hidI hz3; obtain ⟨s0, s1, s2, s3, s4, -⟩ := (box_bel hz2 K.out.1).c; clear hz1 hz2 hz3)
              | (go_at_call 24; refine (conW.out _ _ _ _ _ _ Z2.out Z3.out _ (by rfl) (by rfl) (by rfl) (by rfl)).mono ?_; rintro e w6 ⟨u, e5, e6, f5, f6, rfl, hu1, hu2, hu3⟩; have U1 := hidI hu1; have U2 := hidI hu2; have U3 := hidI hu3; obtain ⟨t0, t1, t2, t3, t4, t5, t6, t7, t8, t9⟩ := (box_bel (bel_trans Z2.out hu2) K.out.1).c; clear hu1 hu2 hu3))
            all_goals
              go_wp2_with fail
              go_roundg (p.keys.length - (k + 1))
              case measure => rw [GK.out]; omega
              case rel => exact ⟨k + 1, hlt, rfl, by go_num, FIN.out _ _ _ _ _ _ _ _ Z2.out Z1.out U2.out U1.out U3.out⟩
        · have hke : k = p.keys.length := by omega
          have HY : Hid (mergeF (E + 1) v p = y) := hidI (by rw [HM.out, I.out.1, List.take_of_length_le (by rw [List.length_zip]; have := HKL.out; omega)])
          have d1 : ¬ (k : Int) < (p.keys.length : Int) := by omega
          obtain ⟨z0, z1, z2, z3, z4, z5, z6, z7, z8, z9⟩ := I.out.2.2.2.1.c
          have Z : Hid (_ ∧ _) := hidI (sto_out (g := w.heap.size + 2) I.out.2.2.2.2.2 I.out.2.2.2.2.1 (by omega) (by omega))
          have ZB : Hid _ := hidI (I.out.2.2.2.1.set (.int .i64 y.kind) (.int .i64 y.n) (.string ⟨y.s.toArray⟩) (.slice a5 y.keys.length c5) (.slice a6 y.l.length c6))
          clear hke
          go_wp2_with fail
          obtain ⟨q0, q1, q2, q3, q4, -⟩ := ZB.out.c
          refine bodyPost_ret (v := .agg #[.int .i64 y.kind, .int .i64 y.n, .string ⟨y.s.toArray⟩, .slice a5 y.keys.length c5, .slice a6 y.l.length c6]) ?_ rfl ?_
          · simp only [set5] at q0 q1 q2 q3 q4
            simp [results, Tryz.results14, go_sem, q0, q1, q2, q3, q4]
          · exact ⟨_, rfl, Z.out.1, by rw [HY.out]; exact Z.out.2⟩
  · have e0 : (p.kind != 5) = true := by rw [bne_iff_ne]; exact hk
    have HM : Hid (mergeF (E + 1) v p = p) := hidI (by rw [mergeF, if_neg hk])
    clear hk
    have K := hidI ((HP.out.bel (B3.out (.cells #[.int .i64 v.kind, .int .i64 v.n, .string ⟨v.s.toArray⟩, .slice a1 v.keys.length c1, .slice a2 v.l.length c2] 25) (.cells #[.int .i64 p.kind, .int .i64 p.n, .string ⟨p.s.toArray⟩, .slice a3 p.keys.length c3, .slice a4 p.l.length c4] 25) (.cells #[.int .i64 p.kind, .int .i64 p.n, .string ⟨p.s.toArray⟩, .slice a3 p.keys.length c3, .slice a4 p.l.length c4] 25))).weak low_out)
    go_enter Tryz.func14, Tryz.ntmps14
    go_wp2_with fail
    refine bodyPost_ret (v := .agg #[.int .i64 p.kind, .int .i64 p.n, .string ⟨p.s.toArray⟩, .slice a3 p.keys.length c3, .slice a4 p.l.length c4]) ?_ rfl ?_
    · simp [results, Tryz.results14, go_sem]
    · exact ⟨_, rfl, B3.out _ _ _, by rw [HM.out]; exact K.out⟩
theorem merged_is (E : Nat) : MgC E := by
  induction E with
  | zero => intro w ok v p vv pv _ _ _ _ h; exact h.elim
  | succ E ih => exact merged_succ E ih
end Go.Proofs.YtfbddgpekbhpfacGreatDoor

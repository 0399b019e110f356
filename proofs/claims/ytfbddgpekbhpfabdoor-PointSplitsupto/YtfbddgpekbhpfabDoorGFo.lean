/- An object that is being made: a row of keys and a row of items, side by side. -/
import Derived.Test.YtfbddgpekbhpfabDoorXp
import Derived.Test.YtfbddgpekbhpfabDoorXa
import Derived.Test.YtfbddgpekbhpfabDoorGFc
/- Merge, Clean and Diff, plainly. -/
set_option linter.unusedSimpArgs false
set_option linter.unusedVariables false
namespace Go.Proofs.YtfbddgpekbhpfabDoor
open Go.RowKit

/- An object in order. -/
def Ob (t : V) : Prop := t.kind = 5 ∧ t.n = 0 ∧ t.s = [] ∧ t.keys.length = t.l.length ∧ Rises t.keys
theorem Ob.paired {t : V} (h : Ob t) : pairedV t = true := by simp [pairedV, h.1, h.2.2.2.1]
def objT : V := ⟨5, 0, [], [], []⟩
theorem ob_objT : Ob objT := ⟨rfl, rfl, rfl, rfl, List.Pairwise.nil⟩
theorem mem_objT (k : List UInt8) : memV objT k = none := rfl
theorem ob_of {t : V} (hs : shapedB t = true) (hk : t.kind = 5) : Ob t := by
  obtain ⟨h1, h2, h3, h4⟩ := shaped_object hs hk
  simp only [pairedV, Bool.and_eq_true, decide_eq_true_eq] at h1
  exact ⟨hk, h3, h4, h1.2, (rise_pair _ _ h2).2.1⟩
theorem look_mem {k : List UInt8} {ps : List (List UInt8 × V)} {x : V} (h : look k ps = some x) : (k, x) ∈ ps := by
  induction ps with
  | nil => cases h
  | cons p ps ih =>
    rw [look] at h
    split at h
    · rename_i e; cases h; rw [← e]; simp
    · simp [ih h]
theorem look_key {k : List UInt8} {ps : List (List UInt8 × V)} (h : look k ps = none) : ∀ p ∈ ps, p.1 ≠ k := by
  induction ps with
  | nil => intro p hp; cases hp
  | cons q ps ih =>
    rw [look] at h
    split at h
    · cases h
    · rename_i e
      intro p hp
      rcases List.mem_cons.1 hp with rfl | hp
      · exact e
      · exact ih h p hp
/- Rising pairs that answer alike are the same. -/
theorem look_ext : ∀ (a b : List (List UInt8 × V)), (a.map Prod.fst).Pairwise (fun x y => Op.bytesLess x y = true) → (b.map Prod.fst).Pairwise (fun x y => Op.bytesLess x y = true) → (∀ k, look k a = look k b) → a = b
  | [], [], _, _, _ => rfl
  | [], q :: b, _, _, h => by have := h q.1; simp [look] at this
  | p :: a, [], _, _, h => by have := h p.1; simp [look] at this
  | p :: a, q :: b, ha, hb, h => by
    rw [List.map_cons, List.pairwise_cons] at ha hb
    have less : ∀ x y : List UInt8, Op.bytesLess x y = true → Op.bytesLess y x = true → False := fun x y h1 h2 => by
      have := less_trans x y x h1 h2; rw [less_irrefl] at this; cases this
    have hk : p.1 = q.1 := by
      have h1 := h p.1
      have h2 := h q.1
      rw [look, if_pos rfl, look] at h1
      rw [look] at h2
      split at h1
      · rename_i e; exact e.symm
      · rename_i e
        have m1 := look_mem h1.symm
        have l1 := hb.1 p.1 (List.mem_map.2 ⟨_, m1, rfl⟩)
        rw [if_neg (fun e' => e e'.symm), look, if_pos rfl] at h2
        have m2 := look_mem h2
        have l2 := ha.1 q.1 (List.mem_map.2 ⟨_, m2, rfl⟩)
        exact (less _ _ l1 l2).elim
    have hv : p.2 = q.2 := by
      have h1 := h p.1
      rw [look, if_pos rfl, look, if_pos hk.symm] at h1
      exact Option.some.inj h1
    have hp : p = q := Prod.ext hk hv
    subst hp
    congr 1
    refine look_ext a b ha.2 hb.2 fun k => ?_
    have h1 := h k
    rw [look, look] at h1
    by_cases e : p.1 = k
    · have n1 : look k a = none := look_none fun r hr e' => by
        have := ha.1 r.1 (List.mem_map.2 ⟨r, hr, rfl⟩)
        rw [e, ← e', less_irrefl] at this; cases this
      have n2 : look k b = none := look_none fun r hr e' => by
        have := hb.1 r.1 (List.mem_map.2 ⟨r, hr, rfl⟩)
        rw [e, ← e', less_irrefl] at this; cases this
      rw [n1, n2]
    · rwa [if_neg e, if_neg e] at h1
theorem zip_inj {a b : List (List UInt8)} {c d : List V} (h1 : a.length = c.length) (h2 : b.length = d.length) (h : a.zip c = b.zip d) : a = b ∧ c = d := by
  have e1 := congrArg (List.map Prod.fst) h
  have e2 := congrArg (List.map Prod.snd) h
  rw [List.map_fst_zip (by omega), List.map_fst_zip (by omega)] at e1
  rw [List.map_snd_zip (by omega), List.map_snd_zip (by omega)] at e2
  exact ⟨e1, e2⟩
theorem ob_ext {t u : V} (ht : Ob t) (hu : Ob u) (h : ∀ k, memV t k = memV u k) : t = u := by
  have hz : t.keys.zip t.l = u.keys.zip u.l := look_ext _ _
    (by rw [List.map_fst_zip (by have := ht.2.2.2.1; omega)]; exact ht.2.2.2.2)
    (by rw [List.map_fst_zip (by have := hu.2.2.2.1; omega)]; exact hu.2.2.2.2)
    fun k => by rw [← memV_look ht.paired, ← memV_look hu.paired]; exact h k
  obtain ⟨e1, e2⟩ := zip_inj ht.2.2.2.1 hu.2.2.2.1 hz
  rw [← V_eta t, ← V_eta u, ht.1, hu.1, ht.2.1, hu.2.1, ht.2.2.1, hu.2.2.1, e1, e2]
/- With and Without keep the order. -/
theorem less_total : ∀ (a b : List UInt8), Op.bytesLess a b = false → a ≠ b → Op.bytesLess b a = true
  | [], [], _, h => absurd rfl h
  | [], _ :: _, h, _ => by simp [Op.bytesLess] at h
  | _ :: _, [], _, _ => by simp [Op.bytesLess]
  | x :: a, y :: b, h, hne => by
    simp only [Op.bytesLess, Bool.or_eq_false_iff, decide_eq_false_iff_not, Bool.and_eq_false_iff] at h
    simp only [Op.bytesLess, Bool.or_eq_true, Bool.and_eq_true, decide_eq_true_eq, beq_iff_eq]
    by_cases e : x = y
    · subst e
      refine .inr ⟨rfl, less_total a b ?_ (fun e => hne (by rw [e]))⟩
      rcases h.2 with h2 | h2
      · simp at h2
      · exact h2
    · left
      have h1 := h.1
      rw [UInt8.lt_iff_toNat_lt] at *
      have : x.toNat ≠ y.toNat := fun e' => e (UInt8.toNat_inj.1 e')
      omega
theorem ins_rises {key : List UInt8} {ks : List (List UInt8)} (h : Rises ks) (hn : key ∉ ks) : Rises (ks.take (insV key ks) ++ key :: ks.drop (insV key ks)) := by
  unfold Rises at *
  induction ks with
  | nil => simp [insV]
  | cons a ks ih =>
    rw [List.pairwise_cons] at h
    simp only [List.mem_cons, not_or] at hn
    unfold insV
    rw [List.takeWhile_cons]
    split
    · rename_i hl
      simp only [List.length_cons, List.take_succ_cons, List.drop_succ_cons, List.cons_append]
      rw [List.pairwise_cons]
      refine ⟨?_, ih h.2 hn.2⟩
      intro x hx
      rw [List.mem_append] at hx
      rcases hx with hx | hx
      · exact h.1 x (List.mem_of_mem_take hx)
      · rcases List.mem_cons.1 hx with rfl | hx
        · exact hl
        · exact h.1 x (List.mem_of_mem_drop hx)
    · rename_i hl
      simp only [List.length_nil, List.take_zero, List.drop_zero, List.nil_append]
      have hka := less_total _ _ (by simpa using hl) (fun e => hn.1 e.symm)
      rw [List.pairwise_cons]
      refine ⟨?_, List.pairwise_cons.2 h⟩
      intro x hx
      rcases List.mem_cons.1 hx with rfl | hx
      · exact hka
      · exact less_trans _ _ _ hka (h.1 x hx)
theorem ob_with {t : V} (h : Ob t) (k : List UInt8) (x : V) : Ob (withV t k x) := by
  have hp := h.paired
  have hp' := with_paired hp k x
  simp only [pairedV, Bool.and_eq_true, decide_eq_true_eq] at hp'
  refine ⟨hp'.1, ?_, ?_, hp'.2, ?_⟩
  · unfold withV; rw [if_pos hp]; split <;> exact h.2.1
  · unfold withV; rw [if_pos hp]; split <;> exact h.2.2.1
  · unfold withV; rw [if_pos hp]
    split
    · exact h.2.2.2.2
    · rename_i hi
      exact ins_rises h.2.2.2.2 (idxL_not hi)
theorem ob_without {t : V} (h : Ob t) (k : List UInt8) : Ob (withoutV t k) := by
  unfold withoutV
  split
  · rename_i i hi
    obtain ⟨-, -, h1, h2⟩ := findV_some hi
    have hl := h.2.2.2.1
    refine ⟨h.1, h.2.1, h.2.2.1, ?_, h.2.2.2.2.sublist (out_sub _ _)⟩
    simp only [List.length_append, List.length_take, List.length_drop]; omega
  · exact h
theorem mem_without_other {t : V} (h : Ob t) {k k' : List UInt8} (hne : k' ≠ k) : memV (withoutV t k) k' = memV t k' := by
  have ho := ob_without h k
  rw [memV_look ho.paired, memV_look h.paired]
  have hl := h.2.2.2.1
  unfold withoutV at ho ⊢
  cases hi : findV t k with
  | none => rfl
  | some i =>
    obtain ⟨-, h0, h1, h2⟩ := findV_some hi
    have hk := (idxL_lt h0).2
    simp only
    rw [List.zip_append (by simp [hl]), look_append, zip_split t.keys t.l i hl, look_append]
    congr 1
    rw [drop_at hk, List.drop_eq_getElem_cons h1, List.zip_cons_cons, look, if_neg (fun e => hne e.symm)]
theorem without_items (t : V) (k : List UInt8) : (withoutV t k).l.length ≤ t.l.length := by
  unfold withoutV
  split
  · simp only [List.length_append, List.length_take, List.length_drop]; omega
  · omega
/- What steps through the pairs of an object make, if each changes what is of its key alone. -/
theorem fold_ob {step : V → List UInt8 × V → V} (ho : ∀ v p, Ob v → Ob (step v p)) : ∀ (ps : List (List UInt8 × V)) (v : V), Ob v → Ob (ps.foldl step v)
  | [], _, h => h
  | p :: ps, v, h => fold_ob ho ps _ (ho v p h)
theorem fold_far {step : V → List UInt8 × V → V} (ho : ∀ v p, Ob v → Ob (step v p)) (hf : ∀ v p k, Ob v → k ≠ p.1 → memV (step v p) k = memV v k) {k : List UInt8} :
    ∀ (ps : List (List UInt8 × V)) (v : V), Ob v → (∀ p ∈ ps, p.1 ≠ k) → memV (ps.foldl step v) k = memV v k
  | [], _, _, _ => rfl
  | p :: ps, v, h, hn => by
    rw [List.foldl_cons, fold_far ho hf ps _ (ho v p h) fun q hq => hn q (by simp [hq]), hf v p k h fun e => hn p (by simp) e.symm]
theorem fold_mem {step : V → List UInt8 × V → V} {F : List UInt8 → V → Option V → Option V} (ho : ∀ v p, Ob v → Ob (step v p)) (hf : ∀ v p k, Ob v → k ≠ p.1 → memV (step v p) k = memV v k)
    (hs : ∀ v p, Ob v → memV (step v p) p.1 = F p.1 p.2 (memV v p.1)) (k : List UInt8) :
    ∀ (ps : List (List UInt8 × V)) (v : V), Ob v → (ps.map Prod.fst).Nodup → memV (ps.foldl step v) k = match look k ps with | none => memV v k | some x => F k x (memV v k)
  | [], _, _, _ => rfl
  | p :: ps, v, h, hn => by
    rw [List.map_cons, List.nodup_cons] at hn
    rw [List.foldl_cons, look]
    by_cases e : p.1 = k
    · rw [if_pos e, fold_far ho hf ps _ (ho v p h) fun q hq e' => hn.1 (List.mem_map.2 ⟨q, hq, by rw [e', e]⟩)]
      subst e
      exact hs v p h
    · rw [if_neg e, fold_mem ho hf hs k ps _ (ho v p h) hn.2, hf v p k h fun e' => e e'.symm]
theorem ob_nodup {t : V} (h : Ob t) : ((t.keys.zip t.l).map Prod.fst).Nodup := by
  rw [List.map_fst_zip (by have := h.2.2.2.1; omega)]
  exact rises_nodup h.2.2.2.2
/- P4.1: what Merge makes. -/
def stepM (f : V → V → V) (v : V) (p : List UInt8 × V) : V := if p.2.kind = 0 then withoutV v p.1 else withV v p.1 (f ((memV v p.1).getD zeroT) p.2)
def objOf (v : V) : V := if v.kind = 5 then v else objT
def mergeF : Nat → V → V → V
  | 0, _, p => p
  | D + 1, v, p => if p.kind = 5 then (p.keys.zip p.l).foldl (stepM (mergeF D)) (objOf v) else p
theorem stepM_ob (f : V → V → V) (v : V) (p : List UInt8 × V) (h : Ob v) : Ob (stepM f v p) := by
  unfold stepM
  split
  · exact ob_without h _
  · exact ob_with h _ _
theorem stepM_far (f : V → V → V) (v : V) (p : List UInt8 × V) (k : List UInt8) (h : Ob v) (hk : k ≠ p.1) : memV (stepM f v p) k = memV v k := by
  unfold stepM
  split
  · exact mem_without_other h hk
  · exact mem_other h.paired _ _ _ hk
theorem stepM_at (f : V → V → V) (v : V) (p : List UInt8 × V) (h : Ob v) : memV (stepM f v p) p.1 = if p.2.kind = 0 then none else some (f ((memV v p.1).getD zeroT) p.2) := by
  unfold stepM
  split
  · exact mem_without h.paired (rises_nodup h.2.2.2.2) _
  · exact mem_with h.paired _ _
theorem ob_objOf {v : V} (h : v.kind = 5 → Ob v) : Ob (objOf v) := by
  unfold objOf
  split
  · exact h (by assumption)
  · exact ob_objT
theorem merge_ob {D : Nat} {v p : V} (hp : p.kind = 5) (hv : v.kind = 5 → Ob v) : Ob (mergeF (D + 1) v p) := by
  rw [mergeF, if_pos hp]
  exact fold_ob (stepM_ob _) _ _ (ob_objOf hv)
theorem merge_mem {D : Nat} {v p : V} (hp : Ob p) (hv : v.kind = 5 → Ob v) (k : List UInt8) :
    memV (mergeF (D + 1) v p) k = match memV p k with | none => memV (objOf v) k | some x => if x.kind = 0 then none else some (mergeF D ((memV (objOf v) k).getD zeroT) x) := by
  rw [mergeF, if_pos hp.1, fold_mem (F := fun k x m => if x.kind = 0 then none else some (mergeF D (m.getD zeroT) x)) (stepM_ob _) (stepM_far _) (stepM_at _) k _ _ (ob_objOf hv) (ob_nodup hp), ← memV_look hp.paired]
theorem mem_in {t x : V} {k : List UInt8} (h : memV t k = some x) : x ∈ t.l := by
  unfold memV at h
  rw [Option.bind_eq_some_iff] at h
  obtain ⟨i, -, h⟩ := h
  exact List.mem_of_getElem? h
theorem nice_ob {t : V} (h : Nice t) : t.kind = 5 → Ob t := ob_of (nice_shaped h)
theorem nice_zero : Nice zeroT := ⟨1, ⟨rfl, fun x hx => by cases hx⟩, by simp [szD, zeroT]⟩
theorem nice_was {v : V} (h : Nice v) (k : List UInt8) : Nice ((memV (objOf v) k).getD zeroT) := by
  unfold objOf
  split
  · cases hm : memV v k with
    | none => exact nice_zero
    | some x => exact nice_mem h (mem_in hm)
  · exact nice_zero
/- Merged twice it is as merged once. -/
theorem merge_twice : ∀ (D : Nat) (v p : V), GoodT D p → Nice v → mergeF D (mergeF D v p) p = mergeF D v p
  | 0, _, _, h, _ => h.elim
  | D + 1, v, p, h, hv => by
    by_cases hp : p.kind = 5
    · have op := ob_of h.1 hp
      have ox : Ob (mergeF (D + 1) v p) := merge_ob hp (nice_ob hv)
      refine ob_ext (merge_ob hp fun _ => ox) ox fun k => ?_
      rw [merge_mem op (fun _ => ox) k]
      have e0 : objOf (mergeF (D + 1) v p) = mergeF (D + 1) v p := by unfold objOf; rw [if_pos ox.1]
      rw [e0, merge_mem op (nice_ob hv) k]
      cases hm : memV p k with
      | none => rfl
      | some x =>
        simp only
        split
        · rfl
        · simp only [Option.getD_some]
          rw [merge_twice D _ x (h.2 x (mem_in hm)) (nice_was hv k)]
    · have e : ∀ u, mergeF (D + 1) u p = p := fun u => by rw [mergeF, if_neg hp]
      rw [e, e]
theorem merge_kind {D : Nat} {v p : V} (hp : p.kind = 5) (hv : Nice v) : (mergeF (D + 1) v p).kind = 5 := (merge_ob hp (nice_ob hv)).1
/- P4.2: Clean; what is other. -/
def cleanF : Nat → V → Bool
  | 0, _ => true
  | D + 1, t => !decide (t.kind = 5) || t.l.all fun x => !decide (x.kind = 0) && cleanF D x
theorem clean_mem {D : Nat} {t x : V} (h : cleanF (D + 1) t = true) (hk : t.kind = 5) (hx : x ∈ t.l) : x.kind ≠ 0 ∧ cleanF D x = true := by
  simp only [cleanF, hk, decide_true, Bool.not_true, Bool.false_or, List.all_eq_true, Bool.and_eq_true, Bool.not_eq_true', decide_eq_false_iff_not] at h
  exact h x hx
def stepG (b : V) (d : V) (p : List UInt8 × V) : V := if (memV b p.1).isSome then d else withV d p.1 zeroT
def goneV (a b : V) : V := (a.keys.zip a.l).foldl (stepG b) objT
open Classical in
noncomputable def stepD (f : V → V → V) (a d : V) (p : List UInt8 × V) : V :=
  match memV a p.1 with
  | none => withV d p.1 p.2
  | some y => if y = p.2 then d else withV d p.1 (f y p.2)
noncomputable def diffF : Nat → V → V → V
  | 0, _, b => b
  | D + 1, a, b => if a.kind = 5 ∧ b.kind = 5 then (b.keys.zip b.l).foldl (stepD (diffF D) a) (goneV a b) else b
theorem stepG_ob (b v : V) (p : List UInt8 × V) (h : Ob v) : Ob (stepG b v p) := by
  unfold stepG
  split
  · exact h
  · exact ob_with h _ _
theorem stepG_far (b v : V) (p : List UInt8 × V) (k : List UInt8) (h : Ob v) (hk : k ≠ p.1) : memV (stepG b v p) k = memV v k := by
  unfold stepG
  split
  · rfl
  · exact mem_other h.paired _ _ _ hk
theorem stepG_at (b v : V) (p : List UInt8 × V) (h : Ob v) : memV (stepG b v p) p.1 = if (memV b p.1).isSome then memV v p.1 else some zeroT := by
  unfold stepG
  split
  · rfl
  · exact mem_with h.paired _ _
theorem gone_ob (a b : V) : Ob (goneV a b) := fold_ob (stepG_ob b) _ _ ob_objT
theorem gone_mem {a b : V} (ha : Ob a) (k : List UInt8) : memV (goneV a b) k = if (memV a k).isSome ∧ memV b k = none then some zeroT else none := by
  rw [goneV, fold_mem (F := fun k _ m => if (memV b k).isSome then m else some zeroT) (stepG_ob b) (stepG_far b) (stepG_at b) k _ _ ob_objT (ob_nodup ha), ← memV_look ha.paired, mem_objT]
  cases memV a k <;> cases memV b k <;> simp
theorem stepD_ob (f : V → V → V) (a v : V) (p : List UInt8 × V) (h : Ob v) : Ob (stepD f a v p) := by
  unfold stepD
  split
  · exact ob_with h _ _
  · split
    · exact h
    · exact ob_with h _ _
theorem stepD_far (f : V → V → V) (a v : V) (p : List UInt8 × V) (k : List UInt8) (h : Ob v) (hk : k ≠ p.1) : memV (stepD f a v p) k = memV v k := by
  unfold stepD
  split
  · exact mem_other h.paired _ _ _ hk
  · split
    · rfl
    · exact mem_other h.paired _ _ _ hk
open Classical in
theorem stepD_at (f : V → V → V) (a v : V) (p : List UInt8 × V) (h : Ob v) : memV (stepD f a v p) p.1 = match memV a p.1 with | none => some p.2 | some y => if y = p.2 then memV v p.1 else some (f y p.2) := by
  unfold stepD
  cases memV a p.1 with
  | none => exact mem_with h.paired _ _
  | some y =>
    simp only
    split
    · rfl
    · exact mem_with h.paired _ _
theorem diff_ob {D : Nat} {a b : V} (ha : a.kind = 5) (hb : b.kind = 5) : Ob (diffF (D + 1) a b) := by
  rw [diffF, if_pos ⟨ha, hb⟩]
  exact fold_ob (stepD_ob _ _) _ _ (gone_ob a b)
open Classical in
theorem diff_mem {D : Nat} {a b : V} (ha : Ob a) (hb : Ob b) (k : List UInt8) :
    memV (diffF (D + 1) a b) k = match memV b k with
      | none => if (memV a k).isSome then some zeroT else none
      | some x => match memV a k with | none => some x | some y => if y = x then none else some (diffF D y x) := by
  rw [diffF, if_pos ⟨ha.1, hb.1⟩, fold_mem (F := fun k x m => match memV a k with | none => some x | some y => if y = x then m else some (diffF D y x)) (stepD_ob _ _) (stepD_far _ _) (stepD_at _ _) k _ _ (gone_ob a b) (ob_nodup hb), ← memV_look hb.paired, gone_mem ha]
  cases memV b k with
  | none => simp
  | some x =>
    cases memV a k with
    | none => rfl
    | some y => simp
/- What is clean is made of nothing. -/
theorem merge_new : ∀ (D : Nat) (E : Nat) (v x : V), GoodT D x → cleanF D x = true → D ≤ E → v.kind ≠ 5 → mergeF E v x = x
  | 0, _, _, _, h, _, _, _ => h.elim
  | D + 1, 0, _, _, _, _, h, _ => by omega
  | D + 1, E + 1, v, x, h, hc, hE, hv => by
    by_cases hk : x.kind = 5
    · have ox := ob_of h.1 hk
      refine ob_ext (merge_ob hk fun e => absurd e hv) ox fun k => ?_
      rw [merge_mem ox (fun e => absurd e hv)]
      have e0 : objOf v = objT := by unfold objOf; rw [if_neg hv]
      rw [e0, mem_objT]
      cases hm : memV x k with
      | none => rfl
      | some y =>
        have hy := mem_in hm
        obtain ⟨c1, c2⟩ := clean_mem hc hk hy
        simp only [if_neg c1, Option.getD_none]
        rw [merge_new D E zeroT y (h.2 y hy) c2 (by omega) (by decide)]
    · rw [mergeF, if_neg hk]
theorem diff_kind {D : Nat} {a b : V} (h : b.kind ≠ 0) : (diffF D a b).kind ≠ 0 := by
  cases D with
  | zero => exact h
  | succ D =>
    by_cases hk : a.kind = 5 ∧ b.kind = 5
    · rw [(diff_ob hk.1 hk.2).1]; decide
    · rw [diffF, if_neg hk]; exact h
/- What is other, merged into the first, makes the second. -/
theorem merge_diff : ∀ (D E : Nat) (a b : V), GoodT D b → cleanF D b = true → Nice a → D ≤ E → mergeF E a (diffF D a b) = b
  | 0, _, _, _, h, _, _, _ => h.elim
  | D + 1, 0, _, _, _, _, _, h => by omega
  | D + 1, E + 1, a, b, h, hc, ha, hE => by
    by_cases hb : b.kind = 5
    · by_cases hk : a.kind = 5
      · have oa := nice_ob ha hk
        have ob := ob_of h.1 hb
        have od : Ob (diffF (D + 1) a b) := diff_ob hk hb
        refine ob_ext (merge_ob od.1 (nice_ob ha)) ob fun k => ?_
        have e0 : objOf a = a := by unfold objOf; rw [if_pos hk]
        rw [merge_mem od (nice_ob ha), diff_mem oa ob, e0]
        cases hm : memV b k with
        | none =>
          cases hn : memV a k with
          | none => simp
          | some y => simp [zeroT]
        | some x =>
          have hx := mem_in hm
          obtain ⟨c1, c2⟩ := clean_mem hc hb hx
          cases hn : memV a k with
          | none =>
            simp only [if_neg c1, Option.getD_none]
            rw [merge_new D E zeroT x (h.2 x hx) c2 (by omega) (by decide)]
          | some y =>
            by_cases e : y = x
            · simp [e]
            · have := merge_diff D E y x (h.2 x hx) c2 (nice_mem ha (mem_in hn)) (by omega)
              simp [e, diff_kind c1, this]
      · have e : diffF (D + 1) a b = b := by rw [diffF, if_neg (fun h => hk h.1)]
        rw [e]
        exact merge_new (D + 1) (E + 1) a b h hc hE hk
    · have e : diffF (D + 1) a b = b := by rw [diffF, if_neg (fun h => hb h.2)]
      rw [e, mergeF, if_neg hb]
theorem diff_same {D : Nat} {a : V} (oa : Ob a) : diffF (D + 1) a a = objT := by
  refine ob_ext (diff_ob oa.1 oa.1) ob_objT fun k => ?_
  rw [diff_mem oa oa, mem_objT]
  cases memV a k <;> simp
theorem merge_none {D : Nat} {a : V} (hk : a.kind = 5) : mergeF (D + 1) a objT = a := by
  rw [mergeF, if_pos (show objT.kind = 5 from rfl)]
  show List.foldl _ (objOf a) [] = a
  unfold objOf; rw [if_pos hk]; rfl
end Go.Proofs.YtfbddgpekbhpfabDoor

/- Merge of two values: what it is made of, in memory. -/
set_option linter.unusedSimpArgs false
set_option linter.unusedVariables false
namespace Go.Proofs.YtfbddgpekbhpfabDoor
open Go.RowKit

theorem In.key {w : World} {ok : Nat → Prop} {t : V} {k n s ls : Value} {a : Option Addr} {m c i : Nat} (h : In w ok t (.agg #[k, n, s, .slice a m c, ls])) (hi : i < t.keys.length) :
    ∃ b off, a = some ⟨b, off, none⟩ ∧ t.keys.length ≤ c ∧ c ≤ 9223372036854775807 ∧ w.cell? ⟨b, off + i, none⟩ = some (.string ⟨t.keys[i].toArray⟩) ∧ t.keys[i].length ≤ 9223372036854775807 := by
  obtain ⟨d, h⟩ := h.at
  obtain ⟨ks', ls', e, -, -, -, h4, -⟩ := h
  simp only [Value.agg.injEq, Array.mk.injEq, List.cons.injEq, and_true] at e
  obtain ⟨-, -, -, rfl, -⟩ := e
  obtain ⟨-, h4⟩ := h4
  rcases h4 with ⟨e, _⟩ | ⟨b, off, c', e, h1, h2, hcs⟩
  · rw [e] at hi; simp at hi
  · simp only [Value.slice.injEq] at e
    obtain ⟨rfl, -, rfl⟩ := e
    obtain ⟨g1, -, g3⟩ := hcs i t.keys[i] (List.getElem?_eq_getElem hi)
    exact ⟨b, off, rfl, h1, h2, g3, g1⟩
theorem member_was (w : World) (ok : Nat → Prop) (t : V) (v : Value) (key : List UInt8) (h : In w ok t v) :
    Calls Tryd.prog 12 #[v, str key] w fun e w' => ∃ x, e = .returned (.tuple #[x, .bool (memV t key).isSome]) ∧ Below w.heap.size w w' ∧ In w' ok ((memV t key).getD zeroT) x := by
  obtain ⟨d, h⟩ := h
  refine (member_at w ok d t v key h).mono ?_
  rintro e w' ⟨x, b, rfl, hb, hm⟩
  cases hq : memV t key with
  | none => rw [hq] at hm; rw [hm.1, hm.2]; exact ⟨_, rfl, hb, in_zero w' ok⟩
  | some y => rw [hq] at hm; rw [hm.1]; exact ⟨_, rfl, hb, hm.2.is⟩
theorem sto_out {w w1 : World} {ok : Nat → Prop} {C : Nat} {t : V} {g : Nat} {v0 v1 v2 v3 v4 : Value} (h : In w1 (lowN ok w.heap.size C) t (.agg #[v0, v1, v2, v3, v4])) (hb : Below w.heap.size w w1) (hg : w.heap.size ≤ g) (hC : g < C) :
    Below w.heap.size w (set5 w1 g v0 v1 v2 v3 v4) ∧ In (set5 w1 g v0 v1 v2 v3 v4) (okN ok w.heap.size) t (.agg #[v0, v1, v2, v3, v4]) :=
  ⟨bel_set5 hb hg _ _ _ _ _, (h.box hg hC _ _ _ _ _).weak (lowN_out (by omega))⟩
theorem be0 {w W : World} (e1 : W.heap = w.heap) (e2 : W.os = w.os) (e3 : W.tape = w.tape) (e4 : W.output = w.output) : Below w.heap.size w W := ⟨e2, e3, e4, by rw [e1]; exact Nat.le_refl _, fun k _ => by rw [e1]⟩
theorem lowN_up {ok : Nat → Prop} {B C H : Nat} (h : C ≤ H) : ∀ k, okN (lowN ok B C) H k → lowN ok B C k := by
  intro k hk
  rcases hk with hk | hk
  · exact hk
  · exact .inr (by omega)
/- On the way through the members. -/
theorem fold_len {f : V → V → V} : ∀ (ps : List (List UInt8 × V)) (v : V), (ps.foldl (stepM f) v).l.length ≤ v.l.length + ps.length
  | [], v => by simp
  | p :: ps, v => by
    have h1 := fold_len (f := f) ps (stepM f v p)
    have h2 : (stepM f v p).l.length ≤ v.l.length + 1 := by
      unfold stepM
      split
      · have := without_items v p.1; omega
      · exact with_items _ _ _
    rw [List.foldl_cons, List.length_cons]; omega
theorem objOf_len {v : V} (h : Nice v) : (objOf v).l.length ≤ 120 := by
  unfold objOf
  split
  · exact nice_len h
  · simp [objT]
theorem zip_at {a : List (List UInt8)} {b : List V} {k : Nat} (h : k < a.length) (h' : k < b.length) : (a.zip b)[k]'(by rw [List.length_zip]; omega) = (a[k], b[k]) := by simp
theorem zip_step {β : Type} {g : β → List UInt8 × V → β} {a : List (List UInt8)} {b : List V} {k : Nat} {v : β} (h : k < a.length) (h' : k < b.length) : ((a.zip b).take (k + 1)).foldl g v = g (((a.zip b).take k).foldl g v) (a[k], b[k]) := by
  rw [List.take_succ_eq_append_getElem (by rw [List.length_zip]; omega), List.foldl_append, zip_at h h']; rfl
theorem take_keys {a : List (List UInt8)} {b : List V} {k : Nat} (hd : a.Nodup) (h : k < a.length) : ∀ p ∈ (a.zip b).take k, p.1 ≠ a[k] := by
  intro p hp e
  have ez : (a.zip b).take k = (a.take k).zip (b.take k) := by simp [List.zip, List.take_zipWith]
  rw [ez] at hp
  have h1 := (List.of_mem_zip hp).1
  rw [e] at h1
  obtain ⟨i, hi⟩ := List.getElem?_of_mem h1
  rw [List.getElem?_take] at hi
  split at hi
  · rename_i hik
    have h2 := (List.getElem?_eq_some_iff.1 hi)
    exact List.pairwise_iff_getElem.1 hd i k h2.1 h hik h2.2
  · cases hi
theorem merge_at {E : Nat} {v p : V} {k : Nat} (hv : Nice v) (op : Ob p) (hk : k < p.keys.length) :
    Ob (((p.keys.zip p.l).take k).foldl (stepM (mergeF E)) (objOf v)) ∧ memV (((p.keys.zip p.l).take k).foldl (stepM (mergeF E)) (objOf v)) p.keys[k] = memV (objOf v) p.keys[k] := by
  have o0 := ob_objOf (nice_ob hv)
  exact ⟨fold_ob (stepM_ob _) _ _ o0, fold_far (stepM_ob _) (stepM_far _) _ _ o0 (take_keys (rises_nodup op.2.2.2.2) hk)⟩
theorem merge_len {E : Nat} {v p : V} {k : Nat} (hv : Nice v) (hp : Nice p) : (((p.keys.zip p.l).take k).foldl (stepM (mergeF E)) (objOf v)).l.length ≤ 240 := by
  have h1 := fold_len (f := mergeF E) ((p.keys.zip p.l).take k) (objOf v)
  have h2 := objOf_len hv
  have h3 := nice_len hp
  have h4 : ((p.keys.zip p.l).take k).length ≤ p.l.length := by rw [List.length_take, List.length_zip]; omega
  omega
end Go.Proofs.YtfbddgpekbhpfabDoor

/- Two rows of lists that wait, side by side. -/
set_option linter.unusedSimpArgs false
set_option linter.unusedVariables false
namespace Go.Proofs.YtfbddgpekbhpfabDoor
open Go.RowKit

def okX (ok : Nat → Prop) (B i : Nat) : Nat → Prop := fun k => (ok k ∧ k < B) ∨ k = i
theorem okX_lt {ok : Nat → Prop} {B i H : Nat} (h1 : B ≤ H) (h2 : i < H) : ∀ k, okX ok B i k → k < H := by
  intro k hk
  rcases hk with hk | hk <;> omega
theorem okX_ne {ok : Nat → Prop} {B i g : Nat} (h1 : B ≤ g) (h2 : i ≠ g) : ∀ k, okX ok B i k → k ≠ g := by
  intro k hk
  rcases hk with hk | hk <;> omega
theorem bel_al {a w : World} (h : Below a.heap.size a w) (o : Obj) : Below a.heap.size a (w.alloc o) := bel_trans h (bel_alloc w o)
theorem bel_dr {a w : World} (h : Below a.heap.size a w) : Below a.heap.size a w.drew := h.drew
theorem szle {a w : World} (h : Below a.heap.size a w) : a.heap.size ≤ w.heap.size := h.size
theorem two_up {a w w' : World} {g g' : Nat} (h : Below a.heap.size a w) (q : w.grownBy w' (some g)) (o : g' = g ∨ w.heap.size = g') : a.grownBy w' (some g) ∧ (g' = g ∨ a.heap.size ≤ g') :=
  ⟨gb_trans (gb_below h) q, o.imp id fun e => by have := h.size; omega⟩
theorem heap_old {w : World} {k : Nat} {v : Obj} (h : w.heap[k]? = some v) (o : Obj) : (w.alloc o).heap[k]? = some v :=
  ((World.grownBy_alloc w o none).block k (Array.getElem?_eq_some_iff.1 h).1 (by simp)).trans h
theorem heap_at6 (w : World) (o1 o2 o3 o4 o5 o6 : Obj) (i : Nat) (hi : i < 6) : ((((((w.alloc o1).alloc o2).alloc o3).alloc o4).alloc o5).alloc o6).heap[w.heap.size + i]? = [o1, o2, o3, o4, o5, o6][i]? := by
  rcases (show i = 0 ∨ i = 1 ∨ i = 2 ∨ i = 3 ∨ i = 4 ∨ i = 5 by omega) with rfl | rfl | rfl | rfl | rfl | rfl
  · exact heap_old (heap_old (heap_old (heap_old (heap_old (heap_alloc_new w o1) _) _) _) _) _
  · exact heap_old (heap_old (heap_old (heap_old (by simpa using heap_alloc_new (w.alloc o1) o2) _) _) _) _
  · exact heap_old (heap_old (heap_old (by simpa using heap_alloc_new ((w.alloc o1).alloc o2) o3) _) _) _
  · exact heap_old (heap_old (by simpa using heap_alloc_new (((w.alloc o1).alloc o2).alloc o3) o4) _) _
  · exact heap_old (by simpa using heap_alloc_new ((((w.alloc o1).alloc o2).alloc o3).alloc o4) o5) _
  · simpa using heap_alloc_new (((((w.alloc o1).alloc o2).alloc o3).alloc o4).alloc o5) o6
def SE (w : World) (ok ok' : Nat → Prop) (ia ib : Nat) (ls rs : List (List V)) (gL gR cL cR : Nat) (wr : World) : Prop :=
  Wait wr w.heap.size (okX ok w.heap.size ia) ls gL cL ∧ Wait wr w.heap.size (okX ok' w.heap.size ib) rs gR cR ∧ gL ≠ gR ∧ ia ≠ gL ∧ ia ≠ gR ∧ ib ≠ gL ∧ ib ≠ gR ∧ ia < wr.heap.size ∧ ib < wr.heap.size ∧ Below w.heap.size w wr
theorem SE.bel {w wr wr' : World} {ok ok' : Nat → Prop} {ia ib : Nat} {ls rs : List (List V)} {gL gR cL cR : Nat} (h : SE w ok ok' ia ib ls rs gL gR cL cR wr) (hb : Below wr.heap.size wr wr') : SE w ok ok' ia ib ls rs gL gR cL cR wr' := by
  obtain ⟨h3, h4, h5, h6, h7, h8, h9, h10, h11, h12⟩ := h
  exact ⟨h3.bel hb, h4.bel hb, h5, h6, h7, h8, h9, Nat.lt_of_lt_of_le h10 hb.size, Nat.lt_of_lt_of_le h11 hb.size, bel_trans h12 hb⟩
theorem SE.swap {w wr : World} {ok ok' : Nat → Prop} {ia ib : Nat} {ls rs : List (List V)} {gL gR cL cR : Nat} (h : SE w ok ok' ia ib ls rs gL gR cL cR wr) : SE w ok' ok ib ia rs ls gR gL cR cL wr := by
  obtain ⟨h3, h4, h5, h6, h7, h8, h9, h10, h11, h12⟩ := h
  exact ⟨h4, h3, h5.symm, h9, h8, h7, h6, h11, h10, h12⟩
theorem SE.lows {w wr : World} {ok ok' : Nat → Prop} {ia ib : Nat} {ls rs : List (List V)} {gL gR cL cR : Nat} (h : SE w ok ok' ia ib ls rs gL gR cL cR wr) : ∀ k, okX ok w.heap.size ia k → k < wr.heap.size := okX_lt h.2.2.2.2.2.2.2.2.2.size h.2.2.2.2.2.2.2.1
/- Both are pushed, one behind the other. -/
theorem push_end {w w4 w5 w6 : World} {ok ok' : Nat → Prop} {ia ib : Nat} {ls rs : List (List V)} {gL gR cL cR g5 g6 c5 c6 : Nat} {lx ly : List V} (h : SE w ok ok' ia ib ls rs gL gR cL cR w4) (q5 : w4.grownBy w5 (some gL)) (h5 : Wait w5 w.heap.size (okX ok w.heap.size ia) (ls ++ [lx]) g5 c5) (o5 : g5 = gL ∨ w4.heap.size ≤ g5)
    (q6 : w5.grownBy w6 (some gR)) (h6 : Wait w6 w.heap.size (okX ok' w.heap.size ib) (rs ++ [ly]) g6 c6) (o6 : g6 = gR ∨ w5.heap.size ≤ g6) : SE w ok ok' ia ib (ls ++ [lx]) (rs ++ [ly]) g5 g6 c5 c6 w6 := by
  obtain ⟨h3, h4, e1, e2, e3, e4, e5, e6, e7, hB⟩ := h
  have l3 := h3.lt
  have l4 := h4.lt
  have l5 := h5.lt
  have s5 := q5.size
  have s6 := q6.size
  have hn : g5 ≠ gR := by omega
  refine ⟨h5.far q6 hn (okX_ne l4.1 e3), h6, by omega, by omega, by omega, by omega, by omega, by omega, by omega, ?_⟩
  exact gb_none (gb_out (gb_out (gb_below hB) q5 l3.1) q6 l4.1)
def SI (w : World) (ok ok' : Nat → Prop) (ia ib : Nat) (ls rs : List (List V)) (lv rv : Value) (wr : World) : Prop :=
  ∃ gL gR cL cR, lv = .slice (some ⟨gL, 0, none⟩) ls.length cL ∧ rv = .slice (some ⟨gR, 0, none⟩) rs.length cR ∧ SE w ok ok' ia ib ls rs gL gR cL cR wr
theorem SI.bel {w wr wr' : World} {ok ok' : Nat → Prop} {ia ib : Nat} {ls rs : List (List V)} {lv rv : Value} (h : SI w ok ok' ia ib ls rs lv rv wr) (hb : Below wr.heap.size wr wr') : SI w ok ok' ia ib ls rs lv rv wr' := by
  obtain ⟨gL, gR, cL, cR, h1, h2, h3⟩ := h
  exact ⟨gL, gR, cL, cR, h1, h2, h3.bel hb⟩
theorem own_one {w : World} {g B : Nat} {t : TypeId} {v : Value} (h : w.heap[g]? = some (.cells #[v] t)) (hB : B ≤ g) : w.ownsRow B t 1 (.slice (some ⟨g, 0, none⟩) 1 1) 1 [v] :=
  ⟨rfl, .inr ⟨g, 1, #[v], rfl, hB, h, Nat.le_refl _, by simp [maxLen], rfl, rfl⟩⟩
theorem wait_one {w : World} {g i B : Nat} {ok : Nat → Prop} {t : V} {c0 c1 c2 c3 c4 : Value} (hx : In w (okX ok B i) t (.agg #[c0, c1, c2, c3, c4])) (h1 : BoxIs w i c0 c1 c2 c3 c4) (h2 : w.heap[g]? = some (.cells #[.slice (some ⟨i, 0, none⟩) 1 1] 23)) (hB : B ≤ g) (hne : i ≠ g) : Wait w B (okX ok B i) [[t]] g 1 := by
  refine ⟨[.slice (some ⟨i, 0, none⟩) 1 1], own_one h2 hB, ⟨rfl, ?_⟩, okX_ne hB hne⟩
  intro j l c h3 h4
  cases j with
  | zero =>
    simp only [List.getElem?_cons_zero, Option.some.injEq] at h3 h4
    subst h3 h4
    exact vals_one hx h1 (.inr rfl)
  | succ j => simp at h3
theorem si_start {w W : World} {ok ok' : Nat → Prop} {ia ib gL gR : Nat} {a b : V} {a0 a1 a2 a3 a4 b0 b1 b2 b3 b4 : Value} (ha : In w ok a (.agg #[a0, a1, a2, a3, a4])) (hb : In w ok' b (.agg #[b0, b1, b2, b3, b4])) (hB : Below w.heap.size w W)
    (h1 : W.heap[gL]? = some (.cells #[.slice (some ⟨ia, 0, none⟩) 1 1] 23)) (h2 : W.heap[gR]? = some (.cells #[.slice (some ⟨ib, 0, none⟩) 1 1] 23)) (h3 : BoxIs W ia a0 a1 a2 a3 a4) (h4 : BoxIs W ib b0 b1 b2 b3 b4) (hn : gL ≠ gR ∧ ia ≠ gL ∧ ia ≠ gR ∧ ib ≠ gL ∧ ib ≠ gR ∧ w.heap.size ≤ gL ∧ w.heap.size ≤ gR) :
    SI w ok ok' ia ib [[a]] [[b]] (.slice (some ⟨gL, 0, none⟩) 1 1) (.slice (some ⟨gR, 0, none⟩) 1 1) W := by
  obtain ⟨n1, n2, n3, n4, n5, n6, n7⟩ := hn
  have k1 : In W (okX ok w.heap.size ia) a (.agg #[a0, a1, a2, a3, a4]) := (ha.low.bel hB).weak fun k hk => .inl hk
  have k2 : In W (okX ok' w.heap.size ib) b (.agg #[b0, b1, b2, b3, b4]) := (hb.low.bel hB).weak fun k hk => .inl hk
  exact ⟨gL, gR, 1, 1, rfl, rfl, wait_one k1 h3 h1 n6 n2, wait_one k2 h4 h2 n7 n5, n1, n2, n3, n4, n5, h3.lt, h4.lt, hB⟩
/- As many on both sides. -/
def PL (ls rs : List (List V)) : Prop := rs.length = ls.length ∧ ∀ (j : Nat) (l r : List V), ls[j]? = some l → rs[j]? = some r → r.length = l.length
theorem PL.push {ls rs : List (List V)} (h : PL ls rs) {l r : List V} (hl : r.length = l.length) : PL (ls ++ [l]) (rs ++ [r]) := by
  refine ⟨by simp [h.1], fun j l' r' h1 h2 => ?_⟩
  by_cases hj : j < ls.length
  · rw [List.getElem?_append_left hj] at h1
    rw [List.getElem?_append_left (by rw [h.1]; exact hj)] at h2
    exact h.2 j l' r' h1 h2
  · have : j < (ls ++ [l]).length := (List.getElem?_eq_some_iff.1 h1).1
    simp only [List.length_append, List.length_cons, List.length_nil] at this
    have e : j = ls.length := by omega
    subst e
    rw [List.getElem?_append_right (by omega)] at h1
    rw [List.getElem?_append_right (by rw [h.1]; omega)] at h2
    simp only [Nat.sub_self, List.getElem?_cons_zero, Option.some.injEq] at h1
    rw [h.1] at h2
    simp only [Nat.sub_self, List.getElem?_cons_zero, Option.some.injEq] at h2
    rw [← h1, ← h2]; exact hl
theorem PL.pop {ls rs : List (List V)} {l : List V} (h : PL (ls ++ [l]) rs) : ∃ qs r, rs = qs ++ [r] ∧ PL ls qs ∧ r.length = l.length := by
  have hl : rs.length = ls.length + 1 := by simpa using h.1
  obtain ⟨qs, r, rfl⟩ : ∃ qs r, rs = qs ++ [r] := ⟨rs.dropLast, rs.getLast (by intro e; rw [e] at hl; simp at hl), (List.dropLast_concat_getLast _).symm⟩
  have hd : qs.length = ls.length := by simpa using hl
  refine ⟨qs, r, rfl, ⟨hd, fun j l' r' h1 h2 => ?_⟩, ?_⟩
  · have h3 := (List.getElem?_eq_some_iff.1 h1).1
    exact h.2 j l' r' (by rw [List.getElem?_append_left h3]; exact h1) (by rw [List.getElem?_append_left (by omega)]; exact h2)
  · exact h.2 ls.length l r (by simp) (by rw [← hd]; simp)
theorem ends {α : Type} (ls : List α) : ls = [] ∨ ∃ ms l, ls = ms ++ [l] := by
  cases ls with
  | nil => exact .inl rfl
  | cons x xs => exact .inr ⟨(x :: xs).dropLast, (x :: xs).getLast (by simp), (List.dropLast_concat_getLast _).symm⟩
theorem drop_both {xs ys : List V} {k : Nat} (h1 : k < xs.length) (h2 : k < ys.length) : (xs.drop k = ys.drop k ↔ xs[k] = ys[k] ∧ xs.drop (k + 1) = ys.drop (k + 1)) := by
  rw [List.drop_eq_getElem_cons h1, List.drop_eq_getElem_cons h2, List.cons.injEq]
theorem snoc_both {α : Type} {a b : List α} {x y : α} : (a ++ [x] = b ++ [y] ↔ a = b ∧ x = y) := by
  constructor
  · intro h; exact List.append_inj' h rfl |>.imp id fun e => List.cons.inj e |>.1
  · rintro ⟨rfl, rfl⟩; rfl
/- What Same answers. -/
def SameP (w : World) (a b : V) (e : Ending) (w' : World) : Prop := ∃ r, e = .returned (.bool r) ∧ (r = true ↔ a = b) ∧ Below w.heap.size w w'
/- On the way through two lists. -/
def SJ (w : World) (ok ok' : Nat → Prop) (ia ib : Nat) (a b : V) (xs ys : List V) (xv yv : Value) (M k : Nat) (lv rv : Value) (wr : World) : Prop :=
  ∃ ls rs, (a = b ↔ ls = rs ∧ xs.drop k = ys.drop k) ∧ PL ls rs ∧ mu ls + cnts (xs.drop k) + 1 ≤ M ∧ M ≤ 2000000000001 ∧ ValsIn wr (okX ok w.heap.size ia) xs xv ∧ ValsIn wr (okX ok' w.heap.size ib) ys yv ∧ SI w ok ok' ia ib ls rs lv rv wr
theorem SJ.bel {w wr wr' : World} {ok ok' : Nat → Prop} {ia ib : Nat} {a b : V} {xs ys : List V} {xv yv : Value} {M k : Nat} {lv rv : Value} (h : SJ w ok ok' ia ib a b xs ys xv yv M k lv rv wr) (hb : Below wr.heap.size wr wr') : SJ w ok ok' ia ib a b xs ys xv yv M k lv rv wr' := by
  obtain ⟨ls, rs, h1, h2, h3, h4, h5, h6, h7⟩ := h
  exact ⟨ls, rs, h1, h2, h3, h4, h5.bel hb, h6.bel hb, h7.bel hb⟩
end Go.Proofs.YtfbddgpekbhpfabDoor

set_option linter.unusedSimpArgs false
set_option linter.unusedVariables false
namespace Go.Proofs.YtfbddgpekbhpfabDoor
open Go.RowKit

theorem run_pushS {W : World} {B : Nat} {v : Value} {n : Nat} {cs : List Value} {nb : Nat} {k : ByteArray} (ho : W.ownsRow B 9 1 v n cs) (hnb : W.heap[nb]? = some (.cells #[.string k] 9)) (hn : n ≤ 1000000) (hB : B ≤ W.heap.size) (ty : TypeId) :
    ∃ g cap W', (Builtin.append_ #[22, 22] ty #[v, .slice (some ⟨nb, 0, none⟩) 1 1]).run Tryd.prog W = .ok (.slice (some ⟨g, 0, none⟩) (n + 1) cap) W' ∧ W'.ownsRow B 9 1 (.slice (some ⟨g, 0, none⟩) (n + 1) cap) (n + 1) (cs ++ [.string k]) ∧ W.grownBy W' v.ownBlock ∧ (v.ownBlock = some g ∨ W.heap.size = g) := by
  obtain ⟨i0, hi, hz0, hz1, hz2⟩ := info_parts info9
  obtain ⟨g, cap, W', hr, h1, h2, h3, -⟩ := run_append_lies (P := Tryd.prog) W 22 ty B 9 i0 _ 1 16 Tryd.underlying22 hi hz0 hz1 hz2 rfl (by decide) v n cs ho ⟨nb, 0, none⟩ 1 1 [.string k] rfl
    (World.news_of_block (cs := #[.string k]) hnb) (by intro u hu; simp only [List.mem_cons, List.not_mem_nil, or_false] at hu; subst hu; rfl) (by decide) (by unfold maxLen; omega) (by omega) hB W.heap.size rfl
  exact ⟨g, cap, W', hr, h1, h2, h3.imp id Eq.symm⟩
theorem run_pushV {W : World} {B : Nat} {v : Value} {n : Nat} {cs : List Value} {nb : Nat} {k m : Int} {ss : ByteArray} {a7 a8 : Option Addr} {l7 c7 l8 c8 : Nat} (ho : W.ownsRow B 25 5 v n cs) (hnb : W.heap[nb]? = some (.cells #[.int .i64 k, .int .i64 m, .string ss, .slice a7 l7 c7, .slice a8 l8 c8] 25)) (hn : n ≤ 1000000) (hB : B ≤ W.heap.size) (ty : TypeId) :
    ∃ g cap W', (Builtin.append_ #[23, 23] ty #[v, .slice (some ⟨nb, 0, none⟩) 1 1]).run Tryd.prog W = .ok (.slice (some ⟨g, 0, none⟩) (n + 1) cap) W' ∧ W'.ownsRow B 25 5 (.slice (some ⟨g, 0, none⟩) (n + 1) cap) (n + 1) (cs ++ [.int .i64 k, .int .i64 m, .string ss, .slice a7 l7 c7, .slice a8 l8 c8]) ∧ W.grownBy W' v.ownBlock ∧ (v.ownBlock = some g ∨ W.heap.size = g) := by
  obtain ⟨i0, hi, hz0, hz1, hz2⟩ := info_parts info25
  obtain ⟨g, cap, W', hr, h1, h2, h3, -⟩ := run_append_lies (P := Tryd.prog) W 23 ty B 25 i0 _ 5 80 Tryd.underlying23 hi hz0 hz1 hz2 rfl (by decide) v n cs ho ⟨nb, 0, none⟩ 1 1 [.int .i64 k, .int .i64 m, .string ss, .slice a7 l7 c7, .slice a8 l8 c8] rfl
    (World.news_of_block (cs := #[.int .i64 k, .int .i64 m, .string ss, .slice a7 l7 c7, .slice a8 l8 c8]) hnb) (one5 _ _ _ _ _ _ _ _ _) (by decide) (by unfold maxLen; omega) (by omega) hB W.heap.size rfl
  exact ⟨g, cap, W', hr, h1, h2, h3.imp id Eq.symm⟩
/- An append in a region that draws, by its run. -/
theorem step_run {w : World} {ops : Array Oper} {o : Oper} {a : Act} {K : Act → World → Prop} {Q : Exit → Act → World → Prop} {E : Prop} (hgd : o.guard = none) (s x : Operand) (t : TypeId) (ho : o.op = .call { callee := .builtin .append, args := #[s, x], argTypes := #[t, t] })
    (v u : Value) (hs : a.eval s = v) (hx : a.eval x = u) (R : Value → World → Prop) (hr : ∀ ty, ∃ v' w', (Builtin.append_ #[t, t] ty #[v, u]).run Tryd.prog w = .ok v' w' ∧ R v' w') (hK : ∀ v' w', R v' w' → K (a.put o.dst v') w') :
    if Region.wanted o (yielded ops a.tmps) = true then Oper.wp Tryd.prog o a w K Q else E := by
  have hw : Region.wanted o (yielded ops a.tmps) = true := by simp [Region.wanted, hgd]
  rw [if_pos hw]
  obtain ⟨v', w', h1, h2⟩ := hr o.type
  unfold Oper.wp execOp
  simp only [ho, resolve, invoke, builtin, Sem.run_bind, Sem.run_pure, Result.andThen_ok, List.map_toArray, List.map_cons, List.map_nil, hs, hx, h1]
  exact hK v' w' h2
/- Both rows. -/
def OE (w : World) (ok : Nat → Prop) (B d : Nat) (ks : List (List UInt8)) (l : List V) (kv lv : Value) (wr : World) : Prop :=
  ∃ cs, wr.ownsRow B 9 1 kv ks.length (ks.map str) ∧ wr.ownsRow B 25 5 lv l.length cs ∧ RowV (VIs wr (fun k => ok k ∧ k < w.heap.size) d) l cs ∧ (∀ g, kv.ownBlock = some g → lv.ownBlock ≠ some g) ∧ Below w.heap.size w wr ∧ w.heap.size ≤ B
theorem OE.bel {w wr wr' : World} {ok : Nat → Prop} {B d : Nat} {ks : List (List UInt8)} {l : List V} {kv lv : Value} (h : OE w ok B d ks l kv lv wr) (hb : Below wr.heap.size wr wr') : OE w ok B d ks l kv lv wr' := by
  obtain ⟨cs, h1, h2, h3, h4, h5, h6⟩ := h
  exact ⟨cs, own_bel h1 hb, own_bel h2 hb, h3.imp fun _ _ h => h.bel hb, h4, bel_trans h5 hb, h6⟩
theorem gb_far {a w w' : World} {r : Option Nat} (hb : Below a.heap.size a w) (hg : w.grownBy w' r) (hr : ∀ g, r = some g → a.heap.size ≤ g) : Below a.heap.size a w' :=
  ⟨hg.os.trans hb.os, hg.tape.trans hb.tape, hg.output.trans hb.output, Nat.le_trans hb.size hg.size, fun k hk => (hg.block k (Nat.lt_of_lt_of_le hk hb.size) (fun e => by have := hr k e.symm; omega)).trans (hb.block k hk)⟩
/- A key more. -/
theorem OE.key {w W : World} {ok : Nat → Prop} {B d : Nat} {ks : List (List UInt8)} {l : List V} {kv lv : Value} (h : OE w ok B d ks l kv lv W) {nb : Nat} {k : List UInt8} (hnb : W.heap[nb]? = some (.cells #[.string ⟨k.toArray⟩] 9)) (hn : ks.length ≤ 1000000) (hB : B ≤ W.heap.size) (ty : TypeId) :
    ∃ v' W', (Builtin.append_ #[22, 22] ty #[kv, .slice (some ⟨nb, 0, none⟩) 1 1]).run Tryd.prog W = .ok v' W' ∧ OE w ok B d (ks ++ [k]) l v' lv W' ∧ W.grownBy W' kv.ownBlock ∧ ∃ g cap, v' = .slice (some ⟨g, 0, none⟩) (ks.length + 1) cap := by
  obtain ⟨cs, h1, h2, h3, h4, h5, h6⟩ := h
  obtain ⟨g, cap, W', hr, ho, hg, hor⟩ := run_pushS h1 hnb hn hB ty
  have low : ∀ g', kv.ownBlock = some g' → w.heap.size ≤ g' := fun g' e => Nat.le_trans h6 (h1.lt g' e).1
  refine ⟨_, W', hr, ⟨cs, by simpa [str] using ho, h2.kept hg ?_, h3.imp fun _ _ h => h.grown hg (fun j hj e => by have := low j e.symm; have := hj.2; omega), ?_, gb_far h5 hg low, h6⟩, hg, g, cap, rfl⟩
  · cases hl : lv.ownBlock with
    | none => exact .inl rfl
    | some g' => exact .inr fun e => h4 g' e.symm hl
  · intro g' e hl
    simp only [Value.ownBlock, Option.some.injEq] at e
    subst e
    rcases hor with h0 | h0
    · exact h4 _ h0 hl
    · have := (h2.lt _ hl).2; omega
/- An item more. -/
theorem OE.item {w W : World} {ok : Nat → Prop} {B d : Nat} {ks : List (List UInt8)} {l : List V} {kv lv : Value} (h : OE w ok B d ks l kv lv W) {nb : Nat} {y : V} {a7 a8 : Option Addr} {c7 c8 : Nat} (hnb : W.heap[nb]? = some (.cells #[.int .i64 y.kind, .int .i64 y.n, .string ⟨y.s.toArray⟩, .slice a7 y.keys.length c7, .slice a8 y.l.length c8] 25))
    (hy : VIs W (fun k => ok k ∧ k < w.heap.size) d y (.agg #[.int .i64 y.kind, .int .i64 y.n, .string ⟨y.s.toArray⟩, .slice a7 y.keys.length c7, .slice a8 y.l.length c8])) (hn : l.length ≤ 1000000) (hB : B ≤ W.heap.size) (ty : TypeId) :
    ∃ v' W', (Builtin.append_ #[23, 23] ty #[lv, .slice (some ⟨nb, 0, none⟩) 1 1]).run Tryd.prog W = .ok v' W' ∧ OE w ok B d ks (l ++ [y]) kv v' W' ∧ W.grownBy W' lv.ownBlock ∧ ∃ g cap, v' = .slice (some ⟨g, 0, none⟩) (l.length + 1) cap := by
  obtain ⟨cs, h1, h2, h3, h4, h5, h6⟩ := h
  obtain ⟨g, cap, W', hr, ho, hg, hor⟩ := run_pushV h2 hnb hn hB ty
  have low : ∀ g', lv.ownBlock = some g' → w.heap.size ≤ g' := fun g' e => Nat.le_trans h6 (h2.lt g' e).1
  have conv : ∀ x v, VIs W (fun k => ok k ∧ k < w.heap.size) d x v → VIs W' (fun k => ok k ∧ k < w.heap.size) d x v := fun x v h => h.grown hg (fun j hj e => by have := low j e.symm; have := hj.2; omega)
  have rx : RowV (VIs W' (fun k => ok k ∧ k < w.heap.size) d) [y] [.int .i64 y.kind, .int .i64 y.n, .string ⟨y.s.toArray⟩, .slice a7 y.keys.length c7, .slice a8 y.l.length c8] := ⟨_, _, _, _, _, [], rfl, conv _ _ hy, rfl⟩
  refine ⟨_, W', hr, ⟨_, h1.kept hg ?_, by simpa using ho, rx.append (h3.imp conv), ?_, gb_far h5 hg low, h6⟩, hg, g, cap, rfl⟩
  · cases hl : kv.ownBlock with
    | none => exact .inl rfl
    | some g' => exact .inr fun e => h4 g' hl e.symm
  · intro g' e hl
    simp only [Value.ownBlock, Option.some.injEq] at hl
    subst hl
    rcases hor with h0 | h0
    · exact h4 _ e h0
    · have := (h1.lt _ e).2; omega
end Go.Proofs.YtfbddgpekbhpfabDoor

/- Merge, Clean and Diff, plainly. -/
import Derived.Test.YtmdemcjmcnfjmaaGreatDoorXp
set_option linter.unusedSimpArgs false
set_option linter.unusedVariables false
namespace Go.Proofs.YtmdemcjmcnfjmaaGreatDoor
open Go.RowKit

/- An object in order. -/
def Ob (t : V) : Prop := t.kind = 5 ∧ t.n = 0 ∧ t.s = [] ∧ t.keys.length = t.l.length ∧ Rises t.keys
theorem Ob.paired {t : V} (h : Ob t) : pairedV t = true := by simp [pairedV, h.1, h.2.2.2.1]
def objT : V := ⟨5, 0, [], [], []⟩
theorem ob_objT : Ob objT := ⟨rfl, rfl, rfl, rfl, List.Pairwise.nil⟩
theorem mem_objT (k : List UInt8) : memV objT k = none := rfl
theorem ob_of {t : V} (hs : shapedB t = true) (hk : t.kind = 5) : Ob t := by
  obtain ⟨h1, h2, h3, h4⟩ := shaped_object hs hk
  simp only [pairedV, Bool.and_eq_true, decide_eq_true_eq] at h1
  exact ⟨hk, h3, h4, h1.2, (rise_pair _ _ h2).2.1⟩
theorem look_mem {k : List UInt8} {ps : List (List UInt8 × V)} {x : V} (h : look k ps = some x) : (k, x) ∈ ps := by
  induction ps with
  | nil => cases h
  | cons p ps ih =>
    rw [look] at h
    split at h
    · rename_i e; cases h; rw [← e]; simp
    · simp [ih h]
theorem look_key {k : List UInt8} {ps : List (List UInt8 × V)} (h : look k ps = none) : ∀ p ∈ ps, p.1 ≠ k := by
  induction ps with
  | nil => intro p hp; cases hp
  | cons q ps ih =>
    rw [look] at h
    split at h
    · cases h
    · rename_i e
      intro p hp
      rcases List.mem_cons.1 hp with rfl | hp
      · exact e
      · exact ih h p hp
/- Rising pairs that answer alike are the same. -/
theorem look_ext : ∀ (a b : List (List UInt8 × V)), (a.map Prod.fst).Pairwise (fun x y => Op.bytesLess x y = true) → (b.map Prod.fst).Pairwise (fun x y => Op.bytesLess x y = true) → (∀ k, look k a = look k b) → a = b
  | [], [], _, _, _ => rfl
  | [], q :: b, _, _, h => by have := h q.1; simp [look] at this
  | p :: a, [], _, _, h => by have := h p.1; simp [look] at this
  | p :: a, q :: b, ha, hb, h => by
    rw [List.map_cons, List.pairwise_cons] at ha hb
    have less : ∀ x y : List UInt8, Op.bytesLess x y = true → Op.bytesLess y x = true → False := fun x y h1 h2 => by
      have := less_trans x y x h1 h2; rw [less_irrefl] at this; cases this
    have hk : p.1 = q.1 := by
      have h1 := h p.1
      have h2 := h q.1
      rw [look, if_pos rfl, look] at h1
      rw [look] at h2
      split at h1
      · rename_i e; exact e.symm
      · rename_i e
        have m1 := look_mem h1.symm
        have l1 := hb.1 p.1 (List.mem_map.2 ⟨_, m1, rfl⟩)
        rw [if_neg (fun e' => e e'.symm), look, if_pos rfl] at h2
        have m2 := look_mem h2
        have l2 := ha.1 q.1 (List.mem_map.2 ⟨_, m2, rfl⟩)
        exact (less _ _ l1 l2).elim
    have hv : p.2 = q.2 := by
      have h1 := h p.1
      rw [look, if_pos rfl, look, if_pos hk.symm] at h1
      exact Option.some.inj h1
    have hp : p = q := Prod.ext hk hv
    subst hp
    congr 1
    refine look_ext a b ha.2 hb.2 fun k => ?_
    have h1 := h k
    rw [look, look] at h1
    by_cases e : p.1 = k
    · have n1 : look k a = none := look_none fun r hr e' => by
        have := ha.1 r.1 (List.mem_map.2 ⟨r, hr, rfl⟩)
        rw [e, ← e', less_irrefl] at this; cases this
      have n2 : look k b = none := look_none fun r hr e' => by
        have := hb.1 r.1 (List.mem_map.2 ⟨r, hr, rfl⟩)
        rw [e, ← e', less_irrefl] at this; cases this
      rw [n1, n2]
    · rwa [if_neg e, if_neg e] at h1
theorem zip_inj {a b : List (List UInt8)} {c d : List V} (h1 : a.length = c.length) (h2 : b.length = d.length) (h : a.zip c = b.zip d) : a = b ∧ c = d := by
  have e1 := congrArg (List.map Prod.fst) h
  have e2 := congrArg (List.map Prod.snd) h
  rw [List.map_fst_zip (by omega), List.map_fst_zip (by omega)] at e1
  rw [List.map_snd_zip (by omega), List.map_snd_zip (by omega)] at e2
  exact ⟨e1, e2⟩
theorem ob_ext {t u : V} (ht : Ob t) (hu : Ob u) (h : ∀ k, memV t k = memV u k) : t = u := by
  have hz : t.keys.zip t.l = u.keys.zip u.l := look_ext _ _
    (by rw [List.map_fst_zip (by have := ht.2.2.2.1; omega)]; exact ht.2.2.2.2)
    (by rw [List.map_fst_zip (by have := hu.2.2.2.1; omega)]; exact hu.2.2.2.2)
    fun k => by rw [← memV_look ht.paired, ← memV_look hu.paired]; exact h k
  obtain ⟨e1, e2⟩ := zip_inj ht.2.2.2.1 hu.2.2.2.1 hz
  rw [← V_eta t, ← V_eta u, ht.1, hu.1, ht.2.1, hu.2.1, ht.2.2.1, hu.2.2.1, e1, e2]
/- With and Without keep the order. -/
theorem less_total : ∀ (a b : List UInt8), Op.bytesLess a b = false → a ≠ b → Op.bytesLess b a = true
  | [], [], _, h => absurd rfl h
  | [], _ :: _, h, _ => by simp [Op.bytesLess] at h
  | _ :: _, [], _, _ => by simp [Op.bytesLess]
  | x :: a, y :: b, h, hne => by
    simp only [Op.bytesLess, Bool.or_eq_false_iff, decide_eq_false_iff_not, Bool.and_eq_false_iff] at h
    simp only [Op.bytesLess, Bool.or_eq_true, Bool.and_eq_true, decide_eq_true_eq, beq_iff_eq]
    by_cases e : x = y
    · subst e
      refine .inr ⟨rfl, less_total a b ?_ (fun e => hne (by rw [e]))⟩
      rcases h.2 with h2 | h2
      · simp at h2
      · exact h2
    · left
      have h1 := h.1
      rw [UInt8.lt_iff_toNat_lt] at *
      have : x.toNat ≠ y.toNat := fun e' => e (UInt8.toNat_inj.1 e')
      omega
theorem ins_rises {key : List UInt8} {ks : List (List UInt8)} (h : Rises ks) (hn : key ∉ ks) : Rises (ks.take (insV key ks) ++ key :: ks.drop (insV key ks)) := by
  unfold Rises at *
  induction ks with
  | nil => simp [insV]
  | cons a ks ih =>
    rw [List.pairwise_cons] at h
    simp only [List.mem_cons, not_or] at hn
    unfold insV
    rw [List.takeWhile_cons]
    split
    · rename_i hl
      simp only [List.length_cons, List.take_succ_cons, List.drop_succ_cons, List.cons_append]
      rw [List.pairwise_cons]
      refine ⟨?_, ih h.2 hn.2⟩
      intro x hx
      rw [List.mem_append] at hx
      rcases hx with hx | hx
      · exact h.1 x (List.mem_of_mem_take hx)
      · rcases List.mem_cons.1 hx with rfl | hx
        · exact hl
        · exact h.1 x (List.mem_of_mem_drop hx)
    · rename_i hl
      simp only [List.length_nil, List.take_zero, List.drop_zero, List.nil_append]
      have hka := less_total _ _ (by simpa using hl) (fun e => hn.1 e.symm)
      rw [List.pairwise_cons]
      refine ⟨?_, List.pairwise_cons.2 h⟩
      intro x hx
      rcases List.mem_cons.1 hx with rfl | hx
      · exact hka
      · exact less_trans _ _ _ hka (h.1 x hx)
theorem ob_with {t : V} (h : Ob t) (k : List UInt8) (x : V) : Ob (withV t k x) := by
  have hp := h.paired
  have hp' := with_paired hp k x
  simp only [pairedV, Bool.and_eq_true, decide_eq_true_eq] at hp'
  refine ⟨hp'.1, ?_, ?_, hp'.2, ?_⟩
  · unfold withV; rw [if_pos hp]; split <;> exact h.2.1
  · unfold withV; rw [if_pos hp]; split <;> exact h.2.2.1
  · unfold withV; rw [if_pos hp]
    split
    · exact h.2.2.2.2
    · rename_i hi
      exact ins_rises h.2.2.2.2 (idxL_not hi)
theorem ob_without {t : V} (h : Ob t) (k : List UInt8) : Ob (withoutV t k) := by
  unfold withoutV
  split
  · rename_i i hi
    obtain ⟨-, -, h1, h2⟩ := findV_some hi
    have hl := h.2.2.2.1
    refine ⟨h.1, h.2.1, h.2.2.1, ?_, h.2.2.2.2.sublist (out_sub _ _)⟩
    simp only [List.length_append, List.length_take, List.length_drop]; omega
  · exact h
theorem mem_without_other {t : V} (h : Ob t) {k k' : List UInt8} (hne : k' ≠ k) : memV (withoutV t k) k' = memV t k' := by
  have ho := ob_without h k
  rw [memV_look ho.paired, memV_look h.paired]
  have hl := h.2.2.2.1
  unfold withoutV at ho ⊢
  cases hi : findV t k with
  | none => rfl
  | some i =>
    obtain ⟨-, h0, h1, h2⟩ := findV_some hi
    have hk := (idxL_lt h0).2
    simp only
    rw [List.zip_append (by simp [hl]), look_append, zip_split t.keys t.l i hl, look_append]
    congr 1
    rw [drop_at hk, List.drop_eq_getElem_cons h1, List.zip_cons_cons, look, if_neg (fun e => hne e.symm)]
theorem without_items (t : V) (k : List UInt8) : (withoutV t k).l.length ≤ t.l.length := by
  unfold withoutV
  split
  · simp only [List.length_append, List.length_take, List.length_drop]; omega
  · omega
/- What steps through the pairs of an object make, if each changes what is of its key alone. -/
theorem fold_ob {step : V → List UInt8 × V → V} (ho : ∀ v p, Ob v → Ob (step v p)) : ∀ (ps : List (List UInt8 × V)) (v : V), Ob v → Ob (ps.foldl step v)
  | [], _, h => h
  | p :: ps, v, h => fold_ob ho ps _ (ho v p h)
theorem fold_far {step : V → List UInt8 × V → V} (ho : ∀ v p, Ob v → Ob (step v p)) (hf : ∀ v p k, Ob v → k ≠ p.1 → memV (step v p) k = memV v k) {k : List UInt8} :
    ∀ (ps : List (List UInt8 × V)) (v : V), Ob v → (∀ p ∈ ps, p.1 ≠ k) → memV (ps.foldl step v) k = memV v k
  | [], _, _, _ => rfl
  | p :: ps, v, h, hn => by
    rw [List.foldl_cons, fold_far ho hf ps _ (ho v p h) fun q hq => hn q (by simp [hq]), hf v p k h fun e => hn p (by simp) e.symm]
theorem fold_mem {step : V → List UInt8 × V → V} {F : List UInt8 → V → Option V → Option V} (ho : ∀ v p, Ob v → Ob (step v p)) (hf : ∀ v p k, Ob v → k ≠ p.1 → memV (step v p) k = memV v k)
    (hs : ∀ v p, Ob v → memV (step v p) p.1 = F p.1 p.2 (memV v p.1)) (k : List UInt8) :
    ∀ (ps : List (List UInt8 × V)) (v : V), Ob v → (ps.map Prod.fst).Nodup → memV (ps.foldl step v) k = match look k ps with | none => memV v k | some x => F k x (memV v k)
  | [], _, _, _ => rfl
  | p :: ps, v, h, hn => by
    rw [List.map_cons, List.nodup_cons] at hn
    rw [List.foldl_cons, look]
    by_cases e : p.1 = k
    · rw [if_pos e, fold_far ho hf ps _ (ho v p h) fun q hq e' => hn.1 (List.mem_map.2 ⟨q, hq, by rw [e', e]⟩)]
      subst e
      exact hs v p h
    · rw [if_neg e, fold_mem ho hf hs k ps _ (ho v p h) hn.2, hf v p k h fun e' => e e'.symm]
theorem ob_nodup {t : V} (h : Ob t) : ((t.keys.zip t.l).map Prod.fst).Nodup := by
  rw [List.map_fst_zip (by have := h.2.2.2.1; omega)]
  exact rises_nodup h.2.2.2.2
/- P4.1: what Merge makes. -/
def stepM (f : V → V → V) (v : V) (p : List UInt8 × V) : V := if p.2.kind = 0 then withoutV v p.1 else withV v p.1 (f ((memV v p.1).getD zeroT) p.2)
def objOf (v : V) : V := if v.kind = 5 then v else objT
def mergeF : Nat → V → V → V
  | 0, _, p => p
  | D + 1, v, p => if p.kind = 5 then (p.keys.zip p.l).foldl (stepM (mergeF D)) (objOf v) else p
theorem stepM_ob (f : V → V → V) (v : V) (p : List UInt8 × V) (h : Ob v) : Ob (stepM f v p) := by
  unfold stepM
  split
  · exact ob_without h _
  · exact ob_with h _ _
theorem stepM_far (f : V → V → V) (v : V) (p : List UInt8 × V) (k : List UInt8) (h : Ob v) (hk : k ≠ p.1) : memV (stepM f v p) k = memV v k := by
  unfold stepM
  split
  · exact mem_without_other h hk
  · exact mem_other h.paired _ _ _ hk
theorem stepM_at (f : V → V → V) (v : V) (p : List UInt8 × V) (h : Ob v) : memV (stepM f v p) p.1 = if p.2.kind = 0 then none else some (f ((memV v p.1).getD zeroT) p.2) := by
  unfold stepM
  split
  · exact mem_without h.paired (rises_nodup h.2.2.2.2) _
  · exact mem_with h.paired _ _
theorem ob_objOf {v : V} (h : v.kind = 5 → Ob v) : Ob (objOf v) := by
  unfold objOf
  split
  · exact h (by assumption)
  · exact ob_objT
theorem merge_ob {D : Nat} {v p : V} (hp : p.kind = 5) (hv : v.kind = 5 → Ob v) : Ob (mergeF (D + 1) v p) := by
  rw [mergeF, if_pos hp]
  exact fold_ob (stepM_ob _) _ _ (ob_objOf hv)
theorem merge_mem {D : Nat} {v p : V} (hp : Ob p) (hv : v.kind = 5 → Ob v) (k : List UInt8) :
    memV (mergeF (D + 1) v p) k = match memV p k with | none => memV (objOf v) k | some x => if x.kind = 0 then none else some (mergeF D ((memV (objOf v) k).getD zeroT) x) := by
  rw [mergeF, if_pos hp.1, fold_mem (F := fun k x m => if x.kind = 0 then none else some (mergeF D (m.getD zeroT) x)) (stepM_ob _) (stepM_far _) (stepM_at _) k _ _ (ob_objOf hv) (ob_nodup hp), ← memV_look hp.paired]
theorem mem_in {t x : V} {k : List UInt8} (h : memV t k = some x) : x ∈ t.l := by
  unfold memV at h
  rw [Option.bind_eq_some_iff] at h
  obtain ⟨i, -, h⟩ := h
  exact List.mem_of_getElem? h
theorem nice_ob {t : V} (h : Nice t) : t.kind = 5 → Ob t := ob_of (nice_shaped h)
theorem nice_zero : Nice zeroT := ⟨1, ⟨rfl, fun x hx => by cases hx⟩, by simp [szD, zeroT]⟩
theorem nice_was {v : V} (h : Nice v) (k : List UInt8) : Nice ((memV (objOf v) k).getD zeroT) := by
  unfold objOf
  split
  · cases hm : memV v k with
    | none => exact nice_zero
    | some x => exact nice_mem h (mem_in hm)
  · exact nice_zero
/- Merged twice it is as merged once. -/
theorem merge_twice : ∀ (D : Nat) (v p : V), GoodT D p → Nice v → mergeF D (mergeF D v p) p = mergeF D v p
  | 0, _, _, h, _ => h.elim
  | D + 1, v, p, h, hv => by
    by_cases hp : p.kind = 5
    · have op := ob_of h.1 hp
      have ox : Ob (mergeF (D + 1) v p) := merge_ob hp (nice_ob hv)
      refine ob_ext (merge_ob hp fun _ => ox) ox fun k => ?_
      rw [merge_mem op (fun _ => ox) k]
      have e0 : objOf (mergeF (D + 1) v p) = mergeF (D + 1) v p := by unfold objOf; rw [if_pos ox.1]
      rw [e0, merge_mem op (nice_ob hv) k]
      cases hm : memV p k with
      | none => rfl
      | some x =>
        simp only
        split
        · rfl
        · simp only [Option.getD_some]
          rw [merge_twice D _ x (h.2 x (mem_in hm)) (nice_was hv k)]
    · have e : ∀ u, mergeF (D + 1) u p = p := fun u => by rw [mergeF, if_neg hp]
      rw [e, e]
theorem merge_kind {D : Nat} {v p : V} (hp : p.kind = 5) (hv : Nice v) : (mergeF (D + 1) v p).kind = 5 := (merge_ob hp (nice_ob hv)).1
/- P4.2: Clean; what is other. -/
def cleanF : Nat → V → Bool
  | 0, _ => true
  | D + 1, t => !decide (t.kind = 5) || t.l.all fun x => !decide (x.kind = 0) && cleanF D x
theorem clean_mem {D : Nat} {t x : V} (h : cleanF (D + 1) t = true) (hk : t.kind = 5) (hx : x ∈ t.l) : x.kind ≠ 0 ∧ cleanF D x = true := by
  simp only [cleanF, hk, decide_true, Bool.not_true, Bool.false_or, List.all_eq_true, Bool.and_eq_true, Bool.not_eq_true', decide_eq_false_iff_not] at h
  exact h x hx
def stepG (b : V) (d : V) (p : List UInt8 × V) : V := if (memV b p.1).isSome then d else withV d p.1 zeroT
def goneV (a b : V) : V := (a.keys.zip a.l).foldl (stepG b) objT
open Classical in
noncomputable def stepD (f : V → V → V) (a d : V) (p : List UInt8 × V) : V :=
  match memV a p.1 with
  | none => withV d p.1 p.2
  | some y => if y = p.2 then d else withV d p.1 (f y p.2)
noncomputable def diffF : Nat → V → V → V
  | 0, _, b => b
  | D + 1, a, b => if a.kind = 5 ∧ b.kind = 5 then (b.keys.zip b.l).foldl (stepD (diffF D) a) (goneV a b) else b
theorem stepG_ob (b v : V) (p : List UInt8 × V) (h : Ob v) : Ob (stepG b v p) := by
  unfold stepG
  split
  · exact h
  · exact ob_with h _ _
theorem stepG_far (b v : V) (p : List UInt8 × V) (k : List UInt8) (h : Ob v) (hk : k ≠ p.1) : memV (stepG b v p) k = memV v k := by
  unfold stepG
  split
  · rfl
  · exact mem_other h.paired _ _ _ hk
theorem stepG_at (b v : V) (p : List UInt8 × V) (h : Ob v) : memV (stepG b v p) p.1 = if (memV b p.1).isSome then memV v p.1 else some zeroT := by
  unfold stepG
  split
  · rfl
  · exact mem_with h.paired _ _
theorem gone_ob (a b : V) : Ob (goneV a b) := fold_ob (stepG_ob b) _ _ ob_objT
theorem gone_mem {a b : V} (ha : Ob a) (k : List UInt8) : memV (goneV a b) k = if (memV a k).isSome ∧ memV b k = none then some zeroT else none := by
  rw [goneV, fold_mem (F := fun k _ m => if (memV b k).isSome then m else some zeroT) (stepG_ob b) (stepG_far b) (stepG_at b) k _ _ ob_objT (ob_nodup ha), ← memV_look ha.paired, mem_objT]
  cases memV a k <;> cases memV b k <;> simp
theorem stepD_ob (f : V → V → V) (a v : V) (p : List UInt8 × V) (h : Ob v) : Ob (stepD f a v p) := by
  unfold stepD
  split
  · exact ob_with h _ _
  · split
    · exact h
    · exact ob_with h _ _
theorem stepD_far (f : V → V → V) (a v : V) (p : List UInt8 × V) (k : List UInt8) (h : Ob v) (hk : k ≠ p.1) : memV (stepD f a v p) k = memV v k := by
  unfold stepD
  split
  · exact mem_other h.paired _ _ _ hk
  · split
    · rfl
    · exact mem_other h.paired _ _ _ hk
open Classical in
theorem stepD_at (f : V → V → V) (a v : V) (p : List UInt8 × V) (h : Ob v) : memV (stepD f a v p) p.1 = match memV a p.1 with | none => some p.2 | some y => if y = p.2 then memV v p.1 else some (f y p.2) := by
  unfold stepD
  cases memV a p.1 with
  | none => exact mem_with h.paired _ _
  | some y =>
    simp only
    split
    · rfl
    · exact mem_with h.paired _ _
theorem diff_ob {D : Nat} {a b : V} (ha : a.kind = 5) (hb : b.kind = 5) : Ob (diffF (D + 1) a b) := by
  rw [diffF, if_pos ⟨ha, hb⟩]
  exact fold_ob (stepD_ob _ _) _ _ (gone_ob a b)
open Classical in
theorem diff_mem {D : Nat} {a b : V} (ha : Ob a) (hb : Ob b) (k : List UInt8) :
    memV (diffF (D + 1) a b) k = match memV b k with
      | none => if (memV a k).isSome then some zeroT else none
      | some x => match memV a k with | none => some x | some y => if y = x then none else some (diffF D y x) := by
  rw [diffF, if_pos ⟨ha.1, hb.1⟩, fold_mem (F := fun k x m => match memV a k with | none => some x | some y => if y = x then m else some (diffF D y x)) (stepD_ob _ _) (stepD_far _ _) (stepD_at _ _) k _ _ (gone_ob a b) (ob_nodup hb), ← memV_look hb.paired, gone_mem ha]
  cases memV b k with
  | none => simp
  | some x =>
    cases memV a k with
    | none => rfl
    | some y => simp
/- What is clean is made of nothing. -/
theorem merge_new : ∀ (D : Nat) (E : Nat) (v x : V), GoodT D x → cleanF D x = true → D ≤ E → v.kind ≠ 5 → mergeF E v x = x
  | 0, _, _, _, h, _, _, _ => h.elim
  | D + 1, 0, _, _, _, _, h, _ => by omega
  | D + 1, E + 1, v, x, h, hc, hE, hv => by
    by_cases hk : x.kind = 5
    · have ox := ob_of h.1 hk
      refine ob_ext (merge_ob hk fun e => absurd e hv) ox fun k => ?_
      rw [merge_mem ox (fun e => absurd e hv)]
      have e0 : objOf v = objT := by unfold objOf; rw [if_neg hv]
      rw [e0, mem_objT]
      cases hm : memV x k with
      | none => rfl
      | some y =>
        have hy := mem_in hm
        obtain ⟨c1, c2⟩ := clean_mem hc hk hy
        simp only [if_neg c1, Option.getD_none]
        rw [merge_new D E zeroT y (h.2 y hy) c2 (by omega) (by decide)]
    · rw [mergeF, if_neg hk]
theorem diff_kind {D : Nat} {a b : V} (h : b.kind ≠ 0) : (diffF D a b).kind ≠ 0 := by
  cases D with
  | zero => exact h
  | succ D =>
    by_cases hk : a.kind = 5 ∧ b.kind = 5
    · rw [(diff_ob hk.1 hk.2).1]; decide
    · rw [diffF, if_neg hk]; exact h
/- What is other, merged into the first, makes the second. -/
theorem merge_diff : ∀ (D E : Nat) (a b : V), GoodT D b → cleanF D b = true → Nice a → D ≤ E → mergeF E a (diffF D a b) = b
  | 0, _, _, _, h, _, _, _ => h.elim
  | D + 1, 0, _, _, _, _, _, h => by omega
  | D + 1, E + 1, a, b, h, hc, ha, hE => by
    by_cases hb : b.kind = 5
    · by_cases hk : a.kind = 5
      · have oa := nice_ob ha hk
        have ob := ob_of h.1 hb
        have od : Ob (diffF (D + 1) a b) := diff_ob hk hb
        refine ob_ext (merge_ob od.1 (nice_ob ha)) ob fun k => ?_
        have e0 : objOf a = a := by unfold objOf; rw [if_pos hk]
        rw [merge_mem od (nice_ob ha), diff_mem oa ob, e0]
        cases hm : memV b k with
        | none =>
          cases hn : memV a k with
          | none => simp
          | some y => simp [zeroT]
        | some x =>
          have hx := mem_in hm
          obtain ⟨c1, c2⟩ := clean_mem hc hb hx
          cases hn : memV a k with
          | none =>
            simp only [if_neg c1, Option.getD_none]
            rw [merge_new D E zeroT x (h.2 x hx) c2 (by omega) (by decide)]
          | some y =>
            by_cases e : y = x
            · simp [e]
            · have := merge_diff D E y x (h.2 x hx) c2 (nice_mem ha (mem_in hn)) (by omega)
              simp [e, diff_kind c1, this]
      · have e : diffF (D + 1) a b = b := by rw [diffF, if_neg (fun h => hk h.1)]
        rw [e]
        exact merge_new (D + 1) (E + 1) a b h hc hE hk
    · have e : diffF (D + 1) a b = b := by rw [diffF, if_neg (fun h => hb h.2)]
      rw [e, mergeF, if_neg hb]
theorem diff_same {D : Nat} {a : V} (oa : Ob a) : diffF (D + 1) a a = objT := by
  refine ob_ext (diff_ob oa.1 oa.1) ob_objT fun k => ?_
  rw [diff_mem oa oa, mem_objT]
  cases memV a k <;> simp
theorem merge_none {D : Nat} {a : V} (hk : a.kind = 5) : mergeF (D + 1) a objT = a := by
  rw [mergeF, if_pos (show objT.kind = 5 from rfl)]
  show List.foldl _ (objOf a) [] = a
  unfold objOf; rw [if_pos hk]; rfl
end Go.Proofs.YtmdemcjmcnfjmaaGreatDoor

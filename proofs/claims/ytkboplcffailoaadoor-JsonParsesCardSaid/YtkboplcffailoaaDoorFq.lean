/- What WithMember and WithoutMember of the reference make of pairs, plainly. -/
import Derived.Test.YtkboplcffailoaaDoorMa
set_option linter.unusedSimpArgs false
set_option linter.unusedVariables false
namespace Go.Proofs.YtkboplcffailoaaDoor
open Go.RowKit
/- What WithMember and WithoutMember of the reference make of pairs. -/
def wmF (key : List UInt8) (x : V) : List (List UInt8 × V) → Bool → List (List UInt8 × V)
  | [], put => if put then [] else [(key, x)]
  | p :: r, put => (if !put && !Op.bytesLess p.1 key then [(key, x)] else []) ++ (if p.1 ≠ key then [p] else []) ++ wmF key x r (put || !Op.bytesLess p.1 key)
theorem wm_put (key : List UInt8) (x : V) : ∀ (ps : List (List UInt8 × V)), wmF key x ps true = ps.filter fun p => decide (p.1 ≠ key)
  | [] => rfl
  | p :: r => by
    unfold wmF
    simp only [Bool.not_true, Bool.false_and, Bool.false_eq_true, if_false, List.nil_append, Bool.true_or, wm_put key x r]
    by_cases h : p.1 = key <;> simp [h]
theorem look_filter {k key : List UInt8} (h : k ≠ key) : ∀ (ps : List (List UInt8 × V)), look k (ps.filter fun p => decide (p.1 ≠ key)) = look k ps
  | [] => rfl
  | p :: r => by
    by_cases hp : p.1 = key
    · have : p.1 ≠ k := fun e => h (e.symm.trans hp)
      simp only [List.filter_cons, hp, ne_eq, not_true_eq_false, decide_false, Bool.false_eq_true, if_false, look_filter h r]
      rw [look, if_neg this]
    · simp only [List.filter_cons, hp, ne_eq, not_false_eq_true, decide_true, if_true, look, look_filter h r]
theorem wm_look (key : List UInt8) (x : V) (k : List UInt8) : ∀ (ps : List (List UInt8 × V)), (ps.map Prod.fst).Pairwise (fun a b => Op.bytesLess a b = true) → look k (wmF key x ps false) = if k = key then some x else look k ps
  | [], _ => by
    unfold wmF
    by_cases h : key = k
    · simp [look, h]
    · have : ¬ k = key := fun e => h e.symm
      simp [look, h, this]
  | p :: r, hr => by
    rw [List.map_cons, List.pairwise_cons] at hr
    unfold wmF
    cases hb : Op.bytesLess p.1 key with
    | true =>
      have hne : p.1 ≠ key := less_ne hb
      simp only [Bool.not_false, Bool.not_true, Bool.and_false, Bool.false_eq_true, if_false, List.nil_append, Bool.or_false, if_pos hne, List.singleton_append, look, wm_look key x k r hr.2]
      by_cases h : p.1 = k
      · have : k ≠ key := fun e => hne (h.trans e)
        simp [h, this]
      · simp [h]
    | false =>
      simp only [Bool.not_false, Bool.and_true, if_true, Bool.or_true, wm_put, List.append_assoc]
      rw [List.singleton_append, look]
      by_cases h : key = k
      · simp [h]
      · have h' : k ≠ key := fun e => h e.symm
        simp only [if_neg h, if_neg h']
        rw [show (if p.1 ≠ key then [p] else []) ++ r.filter (fun p => decide (p.1 ≠ key)) = (p :: r).filter (fun p => decide (p.1 ≠ key)) by by_cases hp : p.1 = key <;> simp [hp]]
        exact look_filter h' (p :: r)
theorem wm_rises (key : List UInt8) (x : V) : ∀ (ps : List (List UInt8 × V)), (ps.map Prod.fst).Pairwise (fun a b => Op.bytesLess a b = true) → ((wmF key x ps false).map Prod.fst).Pairwise (fun a b => Op.bytesLess a b = true) ∧
    ∀ a, (∀ k ∈ ps.map Prod.fst, Op.bytesLess a k = true) → Op.bytesLess a key = true → ∀ k ∈ (wmF key x ps false).map Prod.fst, Op.bytesLess a k = true
  | [], _ => by
    unfold wmF
    simp
  | p :: r, hr => by
    rw [List.map_cons, List.pairwise_cons] at hr
    unfold wmF
    cases hb : Op.bytesLess p.1 key with
    | true =>
      have hne : p.1 ≠ key := less_ne hb
      obtain ⟨h1, h2⟩ := wm_rises key x r hr.2
      simp only [Bool.not_false, Bool.not_true, Bool.and_false, Bool.false_eq_true, if_false, List.nil_append, Bool.or_false, if_pos hne, List.singleton_append, List.map_cons]
      refine ⟨List.pairwise_cons.2 ⟨h2 p.1 hr.1 hb, h1⟩, ?_⟩
      intro a ha hk k hm
      rcases List.mem_cons.1 hm with rfl | hm
      · exact ha _ (by simp)
      · exact h2 a (fun k hk => ha k (by simp [hk])) hk k hm
    | false =>
      simp only [Bool.not_false, Bool.and_true, if_true, Bool.or_true, wm_put, List.append_assoc]
      rw [show (if p.1 ≠ key then [p] else []) ++ r.filter (fun p => decide (p.1 ≠ key)) = (p :: r).filter (fun p => decide (p.1 ≠ key)) by by_cases hp : p.1 = key <;> simp [hp]]
      have hall : ∀ k ∈ ((p :: r).filter (fun p => decide (p.1 ≠ key))).map Prod.fst, Op.bytesLess key k = true := by
        intro k hk
        rw [List.mem_map] at hk
        obtain ⟨q, hq, rfl⟩ := hk
        rw [List.mem_filter] at hq
        have hqn : q.1 ≠ key := by simpa using hq.2
        rcases List.mem_cons.1 hq.1 with rfl | hqr
        · exact less_total _ _ hb hqn
        · by_cases hp : p.1 = key
          · rw [← hp]; exact hr.1 _ (List.mem_map.2 ⟨q, hqr, rfl⟩)
          · exact less_trans _ _ _ (less_total _ _ hb hp) (hr.1 _ (List.mem_map.2 ⟨q, hqr, rfl⟩))
      have hpw : (((p :: r).filter (fun p => decide (p.1 ≠ key))).map Prod.fst).Pairwise (fun a b => Op.bytesLess a b = true) := by
        refine List.Pairwise.sublist ?_ (List.pairwise_cons.2 ⟨hr.1, hr.2⟩)
        exact (List.filter_sublist (l := p :: r)).map Prod.fst
      refine ⟨?_, ?_⟩
      · rw [List.singleton_append, List.map_cons]
        exact List.pairwise_cons.2 ⟨hall, hpw⟩
      · intro a ha hk k hm
        rw [List.singleton_append, List.map_cons] at hm
        rcases List.mem_cons.1 hm with rfl | hm
        · exact hk
        · exact less_trans _ _ _ hk (hall k hm)
theorem zip_maps (ps : List (List UInt8 × V)) : (ps.map Prod.fst).zip (ps.map Prod.snd) = ps := by
  induction ps with
  | nil => rfl
  | cons p ps ih => simp [ih]
theorem zip_fst {a : List (List UInt8)} {b : List V} (h : a.length = b.length) : (a.zip b).map Prod.fst = a := List.map_fst_zip (Nat.le_of_eq h)
theorem wm_with {t : V} (h : Ob t) (key : List UInt8) (x : V) : (⟨5, 0, [], (wmF key x (t.keys.zip t.l) false).map Prod.fst, (wmF key x (t.keys.zip t.l) false).map Prod.snd⟩ : V) = withV t key x := by
  have hz : ((t.keys.zip t.l).map Prod.fst).Pairwise (fun a b => Op.bytesLess a b = true) := by rw [zip_fst h.2.2.2.1]; exact h.2.2.2.2
  have ho : Ob ⟨5, 0, [], (wmF key x (t.keys.zip t.l) false).map Prod.fst, (wmF key x (t.keys.zip t.l) false).map Prod.snd⟩ := ⟨rfl, rfl, rfl, by simp, (wm_rises key x _ hz).1⟩
  refine ob_ext ho (ob_with h key x) fun k => ?_
  rw [memV_look ho.paired]
  show look k (((wmF key x (t.keys.zip t.l) false).map Prod.fst).zip ((wmF key x (t.keys.zip t.l) false).map Prod.snd)) = _
  rw [zip_maps, wm_look key x k _ hz]
  by_cases e : k = key
  · rw [if_pos e, e, mem_with h.paired]
  · rw [if_neg e, mem_other h.paired _ _ _ e, memV_look h.paired]
def woF (key : List UInt8) (ps : List (List UInt8 × V)) : List (List UInt8 × V) := ps.filter fun p => decide (p.1 ≠ key)
theorem wo_without {t : V} (h : Ob t) (key : List UInt8) : (⟨5, 0, [], (woF key (t.keys.zip t.l)).map Prod.fst, (woF key (t.keys.zip t.l)).map Prod.snd⟩ : V) = withoutV t key := by
  have hz : ((t.keys.zip t.l).map Prod.fst).Pairwise (fun a b => Op.bytesLess a b = true) := by rw [zip_fst h.2.2.2.1]; exact h.2.2.2.2
  have ho : Ob ⟨5, 0, [], (woF key (t.keys.zip t.l)).map Prod.fst, (woF key (t.keys.zip t.l)).map Prod.snd⟩ := ⟨rfl, rfl, rfl, by simp, List.Pairwise.sublist ((List.filter_sublist (l := t.keys.zip t.l)).map Prod.fst) hz⟩
  refine ob_ext ho (ob_without h key) fun k => ?_
  rw [memV_look ho.paired]
  show look k (((woF key (t.keys.zip t.l)).map Prod.fst).zip ((woF key (t.keys.zip t.l)).map Prod.snd)) = _
  rw [zip_maps]
  by_cases e : k = key
  · rw [e, mem_without h.paired (List.Pairwise.imp (fun h => less_ne h) h.2.2.2.2)]
    refine look_none fun p hp => ?_
    have := (List.mem_filter.1 hp).2
    simpa using this
  · rw [mem_without_other h e, memV_look h.paired]
    exact look_filter e _
end Go.Proofs.YtkboplcffailoaaDoor

/- Good values, plainly. -/
import Derived.Test.YtmdemcjmcnfjmaaGreatDoorGc
import Derived.Test.YtmdemcjmcnfjmaaGreatDoorCo
set_option linter.unusedSimpArgs false
set_option linter.unusedVariables false
namespace Go.Proofs.YtmdemcjmcnfjmaaGreatDoor
open Go.RowKit

theorem goodS_succ {D : Nat} {t : V} {r p : Int} (h : goodS D t r = (true, p)) : ∃ D', D = D' + 1 ∧ shapedB t = true ∧ 0 ≤ r - 1 ∧ gfold D' t.l (r - 1) = (true, p) := by
  cases D with
  | zero => simp [goodS] at h
  | succ D =>
    simp only [goodS] at h
    split at h
    · cases h
    · rename_i hc
      rw [not_or] at hc
      exact ⟨D, rfl, by simpa using hc.2, by omega, h⟩
theorem gfold_cons {D : Nat} {x : V} {l : List V} {r p : Int} (h : gfold D (x :: l) r = (true, p)) : ∃ q, goodS D x r = (true, q) ∧ gfold D l q = (true, p) := by
  unfold gfold at h
  rw [List.foldl_cons] at h
  simp only [if_true] at h
  cases hb : (goodS D x r).1 with
  | true =>
    have e : goodS D x r = (true, (goodS D x r).2) := by rw [← hb]
    rw [e] at h
    exact ⟨_, e, h⟩
  | false =>
    have e : goodS D x r = (false, (goodS D x r).2) := by rw [← hb]
    rw [e, foldl_false] at h
    cases h
/- A good value as a tree. -/
def GoodT : Nat → V → Prop
  | 0, _ => False
  | d + 1, t => shapedB t = true ∧ ∀ x ∈ t.l, GoodT d x
theorem goodS_tree (D : Nat) : ∀ (t : V) (r p : Int), goodS D t r = (true, p) → GoodT D t := by
  induction D with
  | zero => intro t r p h; simp [goodS] at h
  | succ D ih =>
    intro t r p h
    obtain ⟨D', e, hs, h0, hf⟩ := goodS_succ h
    cases e
    refine ⟨hs, ?_⟩
    generalize t.l = l at hf
    generalize r - 1 = q at hf
    induction l generalizing q with
    | nil => intro x hx; cases hx
    | cons y l ihl =>
      obtain ⟨q2, h1, h2⟩ := gfold_cons hf
      intro x hx
      rcases List.mem_cons.1 hx with rfl | hx
      · exact ih _ _ _ h1
      · exact ihl q2 h2 x hx
theorem goodV_tree {t : V} (h : goodV t = true) : GoodT 12 t := goodS_tree 12 t 120 _ (by unfold goodV at h; rw [← h])
def Dep : Nat → V → Prop
  | 0, _ => False
  | d + 1, t => ∀ x ∈ t.l, Dep d x
theorem GoodT.dep (D : Nat) : ∀ {t : V}, GoodT D t → Dep D t := by
  induction D with
  | zero => intro t h; exact h
  | succ D ih => intro t h x hx; exact ih (h.2 x hx)
theorem less_irrefl (a : List UInt8) : Op.bytesLess a a = false := by
  induction a with
  | nil => rfl
  | cons c a ih => simp [Op.bytesLess, ih]
theorem less_trans : ∀ (a b c : List UInt8), Op.bytesLess a b = true → Op.bytesLess b c = true → Op.bytesLess a c = true
  | _, _, [], _, h => by simp [Op.bytesLess] at h
  | [], _, _ :: _, _, _ => by simp [Op.bytesLess]
  | _ :: _, [], _ :: _, h, _ => by simp [Op.bytesLess] at h
  | x :: a, y :: b, z :: c, h1, h2 => by
    simp only [Op.bytesLess, Bool.or_eq_true, Bool.and_eq_true, decide_eq_true_eq, beq_iff_eq] at h1 h2 ⊢
    rcases h1 with h1 | ⟨rfl, h1⟩
    · rcases h2 with h2 | ⟨rfl, h2⟩
      · exact .inl (by rw [UInt8.lt_iff_toNat_lt] at *; omega)
      · exact .inl h1
    · rcases h2 with h2 | ⟨rfl, h2⟩
      · exact .inl h2
      · exact .inr ⟨rfl, less_trans a b c h1 h2⟩
def Rises (ks : List (List UInt8)) : Prop := ks.Pairwise fun a b => Op.bytesLess a b = true
theorem rise_pair (ks : List (List UInt8)) : ∀ (p : Option (List UInt8)), riseFrom p ks = true → (∀ a ∈ p, ∀ k ∈ ks, Op.bytesLess a k = true) ∧ Rises ks ∧ ∀ k ∈ ks, plainB k = true := by
  induction ks with
  | nil => intro p _; exact ⟨fun _ _ _ h => by (cases h), List.Pairwise.nil, fun _ h => by cases h⟩
  | cons k ks ih =>
    intro p h
    simp only [riseFrom, Bool.and_eq_true] at h
    obtain ⟨⟨h1, h2⟩, h3⟩ := h
    obtain ⟨g1, g2, g3⟩ := ih _ h3
    refine ⟨?_, List.Pairwise.cons (fun a ha => g1 k rfl a ha) g2, fun a ha => ?_⟩
    · intro a ha x hx
      simp only [Option.mem_def] at ha
      subst ha
      rcases List.mem_cons.1 hx with rfl | hx
      · exact h2
      · exact less_trans _ _ _ h2 (g1 k rfl x hx)
    · rcases List.mem_cons.1 ha with rfl | ha
      · exact h1
      · exact g3 a ha
theorem idxL_none {k : List UInt8} {ks : List (List UInt8)} (h : ∀ a ∈ ks, a ≠ k) : idxL k ks = none := by
  induction ks with
  | nil => rfl
  | cons a ks ih => rw [idxL, if_neg (h a (by simp)), ih fun x hx => h x (by simp [hx])]; rfl
theorem less_ne {a b : List UInt8} (h : Op.bytesLess a b = true) : a ≠ b := by
  rintro rfl; rw [less_irrefl] at h; cases h
end Go.Proofs.YtmdemcjmcnfjmaaGreatDoor

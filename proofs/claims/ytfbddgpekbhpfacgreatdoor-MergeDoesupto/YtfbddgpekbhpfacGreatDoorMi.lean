/- What merges reads, and what it shows. -/
import Derived.Test.YtfbddgpekbhpfacGreatDoorMg
import Derived.Test.YtfbddgpekbhpfacGreatDoorQf
set_option linter.unusedSimpArgs false
set_option linter.unusedVariables false
namespace Go.Proofs.YtfbddgpekbhpfacGreatDoor
open Go.RowKit

theorem vis_dep {w : World} {ok : Nat → Prop} : ∀ (d : Nat) {t : V} {v : Value}, VIs w ok d t v → Dep d t
  | 0, _, _, h => h.elim
  | d + 1, t, v, h => by
    obtain ⟨ks, ls, e, h1, h2, h3, h4, h5⟩ := h
    intro x hx
    obtain ⟨y, hy⟩ := vals_mem h5 hx
    exact vis_dep d hy
theorem pair_congr {f g : V → List UInt8} {ks : List (List UInt8)} {l : List V} (h : ∀ x ∈ l, f x = g x) : pairS f ks l = pairS g ks l := by
  unfold pairS
  induction ks generalizing l with
  | nil => rfl
  | cons k ks ih =>
    cases l with
    | nil => rfl
    | cons x l =>
      rw [List.zipWith_cons_cons, List.zipWith_cons_cons, h x (by simp), ih fun y hy => h y (by simp [hy])]
theorem print_fu (d : Nat) : ∀ (d' : Nat) (t : V), Dep d t → Dep d' t → printS d t = printS d' t := by
  induction d with
  | zero => intro d' t h; exact h.elim
  | succ d ih =>
    intro d' t h h'
    cases d' with
    | zero => exact h'.elim
    | succ d' =>
      have e : ∀ x ∈ t.l, printS d x = printS d' x := fun x hx => ih d' x (h x hx) (h' x hx)
      simp only [printS]
      rw [List.map_congr_left e, pair_congr e]
theorem print_any {m : V} {l : List UInt8} {d : Nat} (h : printR 12 m = (l, 0)) (hd : Dep d m) : printR d m = (l, 0) := by
  cases hg : goodV m with
  | false => unfold printR at h; rw [hg] at h; simp at h
  | true =>
    have e := print_fu d 12 m hd (GoodT.dep 12 (goodV_tree hg))
    unfold printR at h ⊢
    rw [e]; exact h
def mgA : List UInt8 := [123, 34, 97, 34, 58, 49, 44, 34, 98, 34, 58, 123, 34, 99, 34, 58, 50, 125, 125]
def mgB : List UInt8 := [123, 34, 97, 34, 58, 110, 117, 108, 108, 44, 34, 98, 34, 58, 123, 34, 100, 34, 58, 51, 125, 125]
def mgO : List UInt8 := [123, 34, 98, 34, 58, 123, 34, 99, 34, 58, 50, 44, 34, 100, 34, 58, 51, 125, 125]
theorem mg_ok : (mergeR (parseS mgA).1 (parseS mgB).1).2 = 0 ∧ printR 12 (mergeR (parseS mgA).1 (parseS mgB).1).1 = (mgO, 0) := by decide +kernel
end Go.Proofs.YtfbddgpekbhpfacGreatDoor

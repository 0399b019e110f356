/- What With of package json does. -/
import Derived.Test.YtkboplcffailoaaDoorCd
import Derived.Test.YtkboplcffailoaaDoorCe
import Derived.Test.YtkboplcffailoaaDoorCp
set_option linter.unusedSimpArgs false
set_option linter.unusedVariables false
namespace Go.Proofs.YtkboplcffailoaaDoor
open Go.RowKit

theorem with_all : WithC := by
  intro w ok d t x v xv key h hx hp hsz hkey
  have hk : findV t key = idxL key t.keys := by simp [findV, hp]
  cases hf : findV t key with
  | some i =>
    have e : withV t key x = { t with l := t.l.take i ++ x :: t.l.drop (i + 1) } := by
      unfold withV
      rw [if_pos hp, ← hk, hf]
    rw [e]
    exact with_found w ok d t x v xv key i h hx hf hsz
  | none =>
    have e : withV t key x = { t with keys := t.keys.take (insAt key t.keys) ++ key :: t.keys.drop (insAt key t.keys), l := t.l.take (insAt key t.keys) ++ x :: t.l.drop (insAt key t.keys) } := by
      unfold withV
      rw [if_pos hp, ← hk, hf]
      rfl
    rw [e]
    exact with_new w ok d t x v xv key h hx hf hp hsz hkey
end Go.Proofs.YtkboplcffailoaaDoor

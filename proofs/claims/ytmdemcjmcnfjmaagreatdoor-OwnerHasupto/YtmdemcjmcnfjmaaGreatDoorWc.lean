/- What marked, unmarked and Split of package point do. -/
import Derived.Test.YtmdemcjmcnfjmaaGreatDoorWb
import Derived.Test.YtmdemcjmcnfjmaaGreatDoorShp
import Derived.Test.YtmdemcjmcnfjmaaGreatDoorCb
set_option linter.unusedSimpArgs false
set_option linter.unusedVariables false
namespace Go.Proofs.YtmdemcjmcnfjmaaGreatDoor
open Go.RowKit

/- The library's variable that the search reads. -/
def GlobM (w : World) : Prop := ∃ m, w.cell? ⟨0, 0, none⟩ = some (.int .i64 m)
theorem GlobM.bel {w w' : World} (h : GlobM w) (hb : Below w.heap.size w w') : GlobM w' := by
  obtain ⟨m, hm⟩ := h
  exact ⟨m, (World.cell?_of_block (hb.block _ (World.block_lt_of_cell? w _ hm))).trans hm⟩
theorem countB_le' (s sub : ByteArray) (h : 1 ≤ sub.size) : Lib.countB s sub ≤ s.size := Lib.countB_le sub h s.size s (Nat.le_refl _)

theorem repl_len {old new : List UInt8} (hne : old ≠ []) (hd : old ≠ new) (hl : new.length ≤ old.length) (n : Nat) : ∀ s : List UInt8, s.length ≤ n → (Lib.replaceAll s old new).length ≤ s.length := by
  induction n with
  | zero =>
    intro s hs
    obtain rfl : s = [] := List.eq_nil_of_length_eq_zero (by omega)
    rw [repl_nil hne hd]
    exact Nat.le_refl _
  | succ n ih =>
    intro s hs
    cases s with
    | nil => rw [repl_nil hne hd]; exact Nat.le_refl _
    | cons c r =>
      cases hp : old.isPrefixOf (c :: r) with
      | true =>
        obtain ⟨t, ht⟩ := List.isPrefixOf_iff_prefix.1 hp
        have hpos : 0 < old.length := List.length_pos_iff.2 hne
        have hlen := congrArg List.length ht
        simp only [List.length_append, List.length_cons] at hlen hs
        rw [← ht, repl_hit hne hd]
        have := ih t (by omega)
        simp only [List.length_append]; omega
      | false =>
        rw [repl_skip hne hd hp]
        have := ih r (by simp at hs; omega)
        simp only [List.length_cons]; omega
theorem count_room (s old new : List UInt8) (h : 1 ≤ old.length) (hn : new.length ≤ 2) : (ByteArray.mk s.toArray).size + Lib.countB ⟨s.toArray⟩ ⟨old.toArray⟩ * (ByteArray.mk new.toArray).size ≤ 3 * s.length := by
  have h1 := countB_le' ⟨s.toArray⟩ ⟨old.toArray⟩ (by rw [ba_size]; exact h)
  rw [ba_size] at h1
  rw [ba_size, ba_size]
  have : Lib.countB ⟨s.toArray⟩ ⟨old.toArray⟩ * new.length ≤ s.length * 2 := Nat.mul_le_mul h1 hn
  omega
theorem repl_at (w : World) (s old new : List UInt8) (hs : s.length ≤ 40000000) (ho : 1 ≤ old.length) (hn : new.length ≤ 2) (hM : GlobM w) :
    Calls Tryz.prog 74 #[.string ⟨s.toArray⟩, .string ⟨old.toArray⟩, .string ⟨new.toArray⟩] w fun e w' => e = .returned (.string ⟨(Lib.replaceAll s old new).toArray⟩) ∧ Below w.heap.size w w' := by
  obtain ⟨m, hm⟩ := hM
  have h1 := count_room s old new ho hn
  exact Tryz.strings_ReplaceAll ⟨s.toArray⟩ ⟨old.toArray⟩ ⟨new.toArray⟩ m w (by rw [ba_size]; omega) hm (by rw [ba_size]; exact ho) (by omega)

set_option maxRecDepth 100000 in
set_option maxHeartbeats 1000000 in
theorem unmarked_at (w : World) (s : List UInt8) (hs : s.length ≤ 1000000) (hM : GlobM w) :
    Calls Tryz.prog 41 #[str s] w fun e w' => e = .returned (str (unmarkedL s)) ∧ Below w.heap.size w w' := by
  have HM := hidI hM
  clear hM
  unfold str
  go_enter Tryz.func41, Tryz.ntmps41
  go_wp2_with fail
  refine (repl_at _ s [126, 49] [47] (by omega) (by simp) (by simp) (by exact HM.out)).mono ?_
  rintro e w1 ⟨rfl, hb1⟩
  have HB1 := hidI hb1
  have HM1 := hidI (HM.out.bel hb1)
  have hl : (Lib.replaceAll s [126, 49] [47]).length ≤ s.length := repl_len (by simp) (by simp) (by simp) _ s (Nat.le_refl _)
  clear hb1
  go_wp2_with fail
  refine (repl_at _ (Lib.replaceAll s [126, 49] [47]) [126, 48] [126] (by omega) (by simp) (by simp) (by exact HM1.out)).mono ?_
  rintro e w2 ⟨rfl, hb2⟩
  have HB2 := hidI hb2
  clear hb2
  go_wp2_with fail
  go_ret
  exact ⟨rfl, bel_trans HB1.out HB2.out⟩

end Go.Proofs.YtmdemcjmcnfjmaaGreatDoor

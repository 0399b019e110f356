/- What plain, plainRising, listless and shaped of package json do. -/
import Derived.Test.YtmdemcjmcnfjmaaGreatDoorCc
set_option linter.unusedSimpArgs false
set_option linter.unusedVariables false
namespace Go.Proofs.YtmdemcjmcnfjmaaGreatDoor
open Go.RowKit

def plainB (s : List UInt8) : Bool := decide (s.length ≤ 60) && s.all fun c => decide (c.toNat < 128)
def riseFrom (prev : Option (List UInt8)) : List (List UInt8) → Bool
  | [] => true
  | k :: ks => plainB k && (match prev with | none => true | some p => Op.bytesLess p k) && riseFrom (some k) ks
def listlessB (t : V) : Bool := decide (t.keys.length = 0) && decide (t.l.length = 0)
def shapedB (t : V) : Bool :=
  if t.kind = 0 then decide (t.n = 0) && decide (t.s = []) && listlessB t
  else if t.kind = 1 then (decide (t.n = 0) || decide (t.n = 1)) && decide (t.s = []) && listlessB t
  else if t.kind = 2 then decide (-9007199254740992 ≤ t.n) && decide (t.n ≤ 9007199254740992) && decide (t.s = []) && listlessB t
  else if t.kind = 3 then decide (t.n = 0) && plainB t.s && listlessB t
  else if t.kind = 4 then decide (t.n = 0) && decide (t.s = []) && decide (t.keys.length = 0)
  else if t.kind = 5 then decide (t.n = 0) && decide (t.s = []) && decide (t.keys.length = t.l.length) && riseFrom none t.keys
  else false

set_option maxRecDepth 100000 in
set_option maxHeartbeats 1000000 in
theorem plain_at (w : World) (s : List UInt8) (hs : s.length ≤ maxLen) :
    Calls Tryz.prog 112 #[str s] w fun e w' => e = .returned (.bool (plainB s)) ∧ w' = w := by
  unfold maxLen at hs
  unfold str
  by_cases h60 : s.length ≤ 60
  · have e0 : ¬ (60 < (s.length : Int)) := by omega
    go_enter Tryz.func112, Tryz.ntmps112
    go_wp2_with fail
    go_loop [3] (fun i => ∃ k : Nat, k ≤ s.length ∧ i = .int .i64 k ∧ (s.take k).all (fun c => decide (c.toNat < 128)) = true) (fun i => s.length - (intOf i).toNat)
    case atStart => exact ⟨0, Nat.zero_le _, rfl, rfl⟩
    case round =>
      obtain ⟨k, hk, rfl, hall⟩ := hrel
      have HA := hidI hall
      clear hall
      by_cases hlt : k < s.length
      · have hb : (s[k].toNat : Int) < 256 := by have := s[k].toNat_lt; omega
        have hsz : k < (ByteArray.mk s.toArray).size := by simpa [ByteArray.size] using hlt
        have hget : (ByteArray.mk s.toArray)[k] = s[k] := rfl
        by_cases hc : s[k].toNat < 128
        · have hc' : ¬ (128 ≤ (s[k].toNat : Int)) := by omega
          go_wp2_with fail
          go_round
          case rel =>
            refine ⟨k + 1, by omega, by go_num, ?_⟩
            rw [List.take_add_one, List.getElem?_eq_getElem hlt, List.all_append, HA.out]
            simp [hc]
          case measure => simp [intOf]; omega
        · have hc' : 128 ≤ (s[k].toNat : Int) := by omega
          go_wp2_with fail
          go_ret
          refine ⟨?_, rfl⟩
          have : plainB s = false := by
            unfold plainB
            rw [Bool.and_eq_false_iff]
            right
            rw [List.all_eq_false]
            exact ⟨s[k], List.getElem_mem _, by simp; omega⟩
          rw [this]; rfl
      · have hke : k = s.length := by omega
        subst hke
        go_wp2_with fail
        go_ret
        refine ⟨?_, rfl⟩
        have : plainB s = true := by
          have := HA.out
          rw [List.take_length] at this
          simp [plainB, h60, this]
        rw [this]; rfl
  · have e0 : 60 < (s.length : Int) := by omega
    go_enter Tryz.func112, Tryz.ntmps112
    go_wp2_with fail
    go_ret
    exact ⟨by rw [show plainB s = false by simp [plainB, h60]]; rfl, rfl⟩

set_option maxRecDepth 100000 in
set_option maxHeartbeats 1000000 in
theorem listless_raw (w : World) (k n : Int) (s : ByteArray) (a1 a2 : Option Addr) (m1 m2 c1 c2 : Nat) (l1 : m1 ≤ 2 ^ 63 - 1) (l2 : m2 ≤ 2 ^ 63 - 1) :
    Calls Tryz.prog 111 #[.agg #[.int .i64 k, .int .i64 n, .string s, .slice a1 m1 c1, .slice a2 m2 c2]] w fun e w' => e = .returned (.bool (decide (m1 = 0) && decide (m2 = 0))) ∧ Below w.heap.size w w' := by
  by_cases hk : m1 = 0
  · have e1 : ((m1 : Int) == 0) = true := by simp [hk]
    have HK := hidI hk
    clear hk
    by_cases hl : m2 = 0
    · have e2 : ((m2 : Int) == 0) = true := by simp [hl]
      have HL := hidI hl
      clear hl
      go_enter Tryz.func111, Tryz.ntmps111
      go_wp2
      go_ret
      exact ⟨by rw [show (decide (m1 = 0) && decide (m2 = 0)) = true by simp [HK.out, HL.out]]; rfl, bel_alloc _ _⟩
    · have e2 : ((m2 : Int) == 0) = false := by rw [beq_eq_false_iff_ne]; omega
      go_enter Tryz.func111, Tryz.ntmps111
      go_wp2
      go_ret
      exact ⟨by rw [show (decide (m1 = 0) && decide (m2 = 0)) = false by simp only [Bool.and_eq_false_iff, decide_eq_false_iff_not]; right; omega]; rfl, bel_alloc _ _⟩
  · have e1 : ((m1 : Int) == 0) = false := by rw [beq_eq_false_iff_ne]; omega
    go_enter Tryz.func111, Tryz.ntmps111
    go_wp2
    go_ret
    exact ⟨by rw [show (decide (m1 = 0) && decide (m2 = 0)) = false by simp only [Bool.and_eq_false_iff, decide_eq_false_iff_not]; left; omega]; rfl, bel_alloc _ _⟩

/- What comes ahead of the place i. -/
def prevAt (xs : List (List UInt8)) (i : Nat) : Option (List UInt8) := if i = 0 then none else xs[i - 1]?
theorem riseFrom_step {xs : List (List UInt8)} {k : Nat} (h : k < xs.length) : riseFrom (prevAt xs k) (xs.drop k) = (plainB xs[k] && (match prevAt xs k with | none => true | some p => Op.bytesLess p xs[k]) && riseFrom (prevAt xs (k + 1)) (xs.drop (k + 1))) := by
  rw [List.drop_eq_getElem_cons h]
  have e : prevAt xs (k + 1) = some xs[k] := by simp [prevAt, List.getElem?_eq_getElem h]
  rw [e]; rfl

set_option maxRecDepth 100000 in
set_option maxHeartbeats 1000000 in
theorem rising_at (w : World) (ok : Nat → Prop) (xs : List (List UInt8)) (v : Value) (h : StrsAre w ok xs v) :
    Calls Tryz.prog 113 #[v] w fun e w' => e = .returned (.bool (riseFrom none xs)) ∧ w' = w := by
  obtain ⟨hm, hx⟩ := h
  obtain ⟨a, c, rfl⟩ := StrsAre.form ⟨hm, hx⟩
  unfold maxLen at hm
  have HX := hidI hx
  clear hx
  go_enter Tryz.func113, Tryz.ntmps113
  go_wp2_with fail
  go_loop [7] (fun i => ∃ k : Nat, k ≤ xs.length ∧ i = .int .i64 k ∧ riseFrom none xs = riseFrom (prevAt xs k) (xs.drop k)) (fun i => xs.length - (intOf i).toNat)
  case atStart => exact ⟨0, Nat.zero_le _, rfl, rfl⟩
  case round =>
    obtain ⟨k, hk, rfl, hr⟩ := hrel
    have HR := hidI hr
    clear hr
    by_cases hlt : k < xs.length
    · rcases HX.out with ⟨e, _⟩ | ⟨b, off, c', hv, hc1, hc2, hcs⟩
      · rw [e] at hlt; simp at hlt
      simp only [Value.slice.injEq] at hv
      obtain ⟨rfl, -, rfl⟩ := hv
      have hcell := (hcs k xs[k] (List.getElem?_eq_getElem hlt)).2.2
      have hl9 := (hcs k xs[k] (List.getElem?_eq_getElem hlt)).1
      have S := hidI (riseFrom_step hlt)
      have hprev : ∀ j, k = j + 1 → w.cell? ⟨b, off + j, none⟩ = some (str xs[k - 1]) := by
        intro j hj
        subst hj
        exact (hcs j xs[j] (List.getElem?_eq_getElem (by omega))).2.2
      have HPV := hidI hprev
      clear hcs hprev
      unfold str at hcell
      cases hpl : plainB xs[k] with
      | false =>
        have HPL := hidI hpl
        clear hpl
        go_wp2_with (go_at_call 112; refine (plain_at _ xs[k] hl9).mono ?_; rintro e w' ⟨rfl, rfl⟩; rw [HPL.out])
        go_ret
        refine ⟨?_, rfl⟩
        rw [HR.out, S.out, HPL.out]; rfl
      | true =>
        have HPL := hidI hpl
        clear hpl
        cases k with
        | zero =>
          have z : prevAt xs 0 = none := rfl
          rw [Nat.add_zero] at hcell
          go_wp2_with (go_at_call 112; refine (plain_at _ xs[0] hl9).mono ?_; rintro e w' ⟨rfl, rfl⟩; rw [HPL.out])
          go_round
          case rel => exact ⟨1, by omega, by go_num, by rw [HR.out, S.out, HPL.out, z]; rfl⟩
          case measure => simp [intOf]; omega
        | succ j =>
          have hpc := HPV.out j rfl
          unfold str at hpc
          have z : prevAt xs (j + 1) = some xs[j] := by simp [prevAt, List.getElem?_eq_getElem (show j < xs.length by omega)]
          have j0 : (0 : Int) < ((j + 1 : Nat) : Int) := by omega
          have Z := hidI z
          clear z
          cases hbl : Op.bytesLess xs[j] xs[j + 1] with
          | true =>
            have HBL := hidI hbl
            go_wp2_with (go_at_call 112; refine (plain_at _ xs[j + 1] hl9).mono ?_; rintro e w' ⟨rfl, rfl⟩; rw [HPL.out])
            go_round
            case rel => exact ⟨j + 1 + 1, by omega, by go_num, by rw [HR.out, S.out, HPL.out, Z.out]; simp only [HBL.out]; rfl⟩
            case measure => simp [intOf]; omega
          | false =>
            have HBL := hidI hbl
            go_wp2_with (go_at_call 112; refine (plain_at _ xs[j + 1] hl9).mono ?_; rintro e w' ⟨rfl, rfl⟩; rw [HPL.out])
            go_ret
            refine ⟨?_, rfl⟩
            rw [HR.out, S.out, HPL.out, Z.out]; simp only [HBL.out]; rfl
    · have hke : k = xs.length := by omega
      subst hke
      go_wp2_with fail
      go_ret
      refine ⟨?_, rfl⟩
      rw [HR.out, List.drop_length]; rfl
end Go.Proofs.YtmdemcjmcnfjmaaGreatDoor

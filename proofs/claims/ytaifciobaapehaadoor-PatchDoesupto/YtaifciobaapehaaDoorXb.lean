/- What number and place of package point do. -/
import Derived.Test.YtaifciobaapehaaDoorXp
import Derived.Test.YtaifciobaapehaaDoorWa
set_option linter.unusedSimpArgs false
set_option linter.unusedVariables false
namespace Go.Proofs.YtaifciobaapehaaDoor
open Go.RowKit

def numV (o : Option Nat) : Value := .tuple #[.int .i64 (o.getD 0 : Nat), .bool o.isSome]
theorem numF_drop {s : List UInt8} {k m : Nat} (h : k < s.length) : numF m (s.drop k) = if 48 ≤ s[k].toNat ∧ s[k].toNat ≤ 57 then numF (m * 10 + (s[k].toNat - 48)) (s.drop (k + 1)) else none := by
  rw [List.drop_eq_getElem_cons h, numF]

set_option maxRecDepth 100000 in
set_option maxHeartbeats 4000000 in
theorem number_at (w : World) (s : List UInt8) (hs : s.length ≤ 9223372036854775807) :
    Calls Tryd.prog 67 #[str s] w fun e w' => e = .returned (numV (numP s)) ∧ w' = w := by
  unfold str
  have hF : ∀ w' : World, w' = w → numP s = none → (Ending.returned (.tuple #[.int .i64 0, .bool false]) = Ending.returned (numV (numP s)) ∧ w' = w) := by
    intro w' h1 h2; rw [h2]; exact ⟨rfl, h1⟩
  have HF := hidI hF
  clear hF
  cases s with
  | nil =>
    have HP : Hid (numP [] = none) := hidI rfl
    have hne : (ByteArray.mk ([] : List UInt8).toArray == ByteArray.mk #[]) = true := ba_eq (by simp)
    go_enter Tryd.func67, Tryd.ntmps67
    go_wp2_with fail
    refine bodyPost_ret (v := .tuple #[.int .i64 0, .bool false]) (by simp [results, Tryd.results67, go_sem] <;> rfl) rfl ?_
    exact HF.out _ rfl HP.out
  | cons c r =>
    have hne : (ByteArray.mk (c :: r).toArray == ByteArray.mk #[]) = false := ba_ne (by simp)
    have hsz : 0 < (ByteArray.mk (c :: r).toArray).size := by rw [ba_size]; simp
    have hget : (ByteArray.mk (c :: r).toArray)[0] = c := rfl
    have hbyte : (c.toNat : Int) < 256 := by have := c.toNat_lt; omega
    by_cases h4 : 4 < r.length + 1
    · have h4' : 4 < (r.length : Int) + 1 := by omega
      have HP : Hid (numP (c :: r) = none) := hidI (by unfold numP; rw [if_pos (.inr (.inl h4))])
      go_enter Tryd.func67, Tryd.ntmps67
      go_wp2_with fail
      refine bodyPost_ret (v := .tuple #[.int .i64 0, .bool false]) (by simp [results, Tryd.results67, go_sem] <;> rfl) rfl ?_
      exact HF.out _ rfl HP.out
    · have h4' : ¬ (4 < (r.length : Int) + 1) := by omega
      by_cases hb : c = 48 ∧ r ≠ []
      · have HP : Hid (numP (c :: r) = none) := hidI (by unfold numP; rw [if_pos (.inr (.inr ⟨by rw [hb.1]; rfl, by intro e; simp only [List.cons.injEq] at e; exact hb.2 e.2⟩))])
        have q1 : ((c.toNat : Int) == 48) = true := by rw [hb.1]; rfl
        have q2 : (c == 48) = true := by rw [beq_iff_eq]; exact hb.1
        have q3 : r.isEmpty = false := by cases r with | nil => exact absurd rfl hb.2 | cons _ _ => rfl
        clear hb
        go_enter Tryd.func67, Tryd.ntmps67
        go_wp2_with fail
        refine bodyPost_ret (v := .tuple #[.int .i64 0, .bool false]) (by simp [results, Tryd.results67, go_sem] <;> rfl) rfl ?_
        exact HF.out _ rfl HP.out
      · have HP : Hid (numP (c :: r) = numF 0 (c :: r)) := hidI (by
          unfold numP
          rw [if_neg]
          rintro (h | h | ⟨h1, h2⟩)
          · cases h
          · exact h4 h
          · simp only [List.head?_cons, Option.some.injEq] at h1
            exact hb ⟨h1, fun e => h2 (by rw [h1, e])⟩)
        have hq : ((c.toNat : Int) == 48) = false ∨ ((c.toNat : Int) == 48) = true ∧ (c == 48) = true ∧ r.isEmpty = true := by
          by_cases hc : c = 48
          · have hr : r = [] := Decidable.byContradiction fun h => hb ⟨hc, h⟩
            exact .inr ⟨by rw [hc]; rfl, by rw [hc]; rfl, by rw [hr]; rfl⟩
          · refine .inl ?_
            rw [beq_eq_false_iff_ne]
            intro e
            exact hc (UInt8.toNat_inj.1 (by show c.toNat = 48; omega))
        clear hb
        have hl4 : (c :: r).length ≤ 4 := by simp only [List.length_cons]; omega
        rcases hq with q1 | ⟨q1, q2, q3⟩
        all_goals
          go_enter Tryd.func67, Tryd.ntmps67
          go_wp2_with fail
          go_loop [4, 5] (fun n i => ∃ k m : Nat, k ≤ (c :: r).length ∧ i = .int .i64 k ∧ n = .int .i64 m ∧ numF 0 (c :: r) = numF m ((c :: r).drop k) ∧ m + 1 ≤ 10 ^ k) (fun _ i => (c :: r).length - (intOf i).toNat)
          case atStart => exact ⟨0, 0, Nat.zero_le _, rfl, rfl, rfl, by simp⟩
          case round =>
            obtain ⟨k, m, hk, rfl, rfl, hrec, hm⟩ := hrel
            have HR := hidI hrec
            clear hrec
            have hp4 : 10 ^ k ≤ 10 ^ 4 := Nat.pow_le_pow_right (by omega) (by omega)
            have HM := hidI hm
            have hm4 : m ≤ 9999 := by simp only [Nat.reducePow] at hp4; omega
            clear hm hp4
            by_cases hlt : k < (c :: r).length
            · have hlt' : (k : Int) < (r.length : Int) + 1 := by simp only [List.length_cons] at hlt; omega
              have hb : ((c :: r)[k].toNat : Int) < 256 := by have := (c :: r)[k].toNat_lt; omega
              have hszk : k < (ByteArray.mk (c :: r).toArray).size := by rw [ba_size]; exact hlt
              have hgetk : (ByteArray.mk (c :: r).toArray)[k] = (c :: r)[k] := rfl
              have ND := hidI (numF_drop (m := m) hlt)
              by_cases hlo : (c :: r)[k].toNat < 48
              · have e1 : ((c :: r)[k].toNat : Int) < 48 := by omega
                go_wp2_with fail
                refine bodyPost_ret (v := .tuple #[.int .i64 0, .bool false]) (by simp [results, Tryd.results67, go_sem] <;> rfl) rfl ?_
                exact HF.out _ rfl (by rw [HP.out, HR.out, ND.out, if_neg (by omega)])
              · have e1 : ¬ (((c :: r)[k].toNat : Int) < 48) := by omega
                by_cases hhi : 57 < (c :: r)[k].toNat
                · have e2 : 57 < ((c :: r)[k].toNat : Int) := by omega
                  go_wp2_with fail
                  refine bodyPost_ret (v := .tuple #[.int .i64 0, .bool false]) (by simp [results, Tryd.results67, go_sem] <;> rfl) rfl ?_
                  exact HF.out _ rfl (by rw [HP.out, HR.out, ND.out, if_neg (by omega)])
                · have e2 : ¬ (57 < ((c :: r)[k].toNat : Int)) := by omega
                  have hw1 : IntKind.u8.wrap (((c :: r)[k].toNat : Int) - 48) = ((c :: r)[k].toNat : Int) - 48 := by rw [IntKind.wrap_u8]; omega
                  go_wp2_with fail
                  go_round
                  case rel =>
                    refine ⟨k + 1, m * 10 + ((c :: r)[k].toNat - 48), hlt, by go_num, ?_, by rw [HR.out, ND.out, if_pos (by omega)], ?_⟩
                    · go_num
                    · have := HM.out; rw [Nat.pow_succ]; omega
                  case measure => simp [intOf]; omega
            · have hke : k = (c :: r).length := by omega
              have hlt' : ¬ ((k : Int) < (r.length : Int) + 1) := by simp only [List.length_cons] at hlt; omega
              have HKE := hidI hke
              clear hlt hke
              go_wp2_with fail
              refine bodyPost_ret (v := .tuple #[.int .i64 m, .bool true]) (by simp [results, Tryd.results67, go_sem] <;> rfl) rfl ?_
              rw [HP.out, HR.out, HKE.out, List.drop_length]
              exact ⟨rfl, rfl⟩

set_option maxRecDepth 100000 in
set_option maxHeartbeats 4000000 in
theorem place_at (w : World) (a : Option Addr) (n c : Nat) (s : List UInt8) (hn : n ≤ 9223372036854775807) (hs : s.length ≤ 9223372036854775807) :
    Calls Tryd.prog 46 #[.slice a n c, str s] w fun e w' => e = .returned (numV (placeP n s)) ∧ w' = w := by
  by_cases h : s = [45]
  · have hb : (s == [45]) = true := by rw [beq_iff_eq]; exact h
    have HP : Hid (placeP n s = some n) := hidI (by unfold placeP; rw [if_pos h])
    clear h
    unfold str
    go_enter Tryd.func46, Tryd.ntmps46
    go_wp2_with fail
    refine bodyPost_ret (v := .tuple #[.int .i64 n, .bool true]) (by simp [results, Tryd.results46, go_sem] <;> rfl) rfl ?_
    rw [HP.out]; exact ⟨rfl, rfl⟩
  · have hb : (s == [45]) = false := by rw [beq_eq_false_iff_ne]; exact h
    cases hq : numP s with
    | none =>
      have HP : Hid (placeP n s = none) := hidI (by unfold placeP; rw [if_neg h, hq]; rfl)
      have HQ := hidI hq
      clear h hq
      unfold str
      go_enter Tryd.func46, Tryd.ntmps46
      go_wp2_with fail
      refine (number_at _ s hs).mono ?_
      rintro e w1 ⟨rfl, hw⟩
      rw [hw, HQ.out]
      unfold numV
      clear hw
      go_wp2_with fail
      refine bodyPost_ret (v := .tuple #[.int .i64 0, .bool false]) (by simp [results, Tryd.results46, go_sem] <;> rfl) rfl ?_
      rw [HP.out]; exact ⟨rfl, rfl⟩
    | some i =>
      have HQ := hidI hq
      by_cases hi : i ≤ n
      · have HP : Hid (placeP n s = some i) := hidI (by unfold placeP; rw [if_neg h, hq, Option.bind_some, if_pos hi])
        have e1 : ¬ ((n : Int) < (i : Int)) := by omega
        clear h hq
        unfold str
        go_enter Tryd.func46, Tryd.ntmps46
        go_wp2_with fail
        refine (number_at _ s hs).mono ?_
        rintro e w1 ⟨rfl, hw⟩
        rw [hw, HQ.out]
        unfold numV
        clear hw
        go_wp2_with fail
        refine bodyPost_ret (v := .tuple #[.int .i64 i, .bool true]) (by simp [results, Tryd.results46, go_sem] <;> rfl) rfl ?_
        rw [HP.out]; exact ⟨rfl, rfl⟩
      · have HP : Hid (placeP n s = none) := hidI (by unfold placeP; rw [if_neg h, hq, Option.bind_some, if_neg hi])
        have e1 : (n : Int) < (i : Int) := by omega
        clear h hq
        unfold str
        go_enter Tryd.func46, Tryd.ntmps46
        go_wp2_with fail
        refine (number_at _ s hs).mono ?_
        rintro e w1 ⟨rfl, hw⟩
        rw [hw, HQ.out]
        unfold numV
        clear hw
        go_wp2_with fail
        refine bodyPost_ret (v := .tuple #[.int .i64 0, .bool false]) (by simp [results, Tryd.results46, go_sem] <;> rfl) rfl ?_
        rw [HP.out]; exact ⟨rfl, rfl⟩
end Go.Proofs.YtaifciobaapehaaDoor

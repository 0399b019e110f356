/- What valueAt of package stairwellref does. -/
import Derived.Test.YtkboplcffailoaaDoorXp
import Derived.Test.YtkboplcffailoaaDoorTp
import Derived.Lib.ItoaMem
import Derived.Test.YtkboplcffailoaaDoorRt
import Derived.Test.YtkboplcffailoaaDoorGBf
import Derived.Test.YtkboplcffailoaaDoorSht
/- Digits, plainly: what decimal of the reference makes of a number; when a name is a number. -/
set_option linter.unusedSimpArgs false
set_option linter.unusedVariables false
namespace Go.Proofs.YtkboplcffailoaaDoor
open Go.RowKit
/- A number's digits, as decimal of the reference has them. -/
def decS (n : Nat) : List UInt8 := if h : n < 10 then [UInt8.ofNat (48 + n)] else decS (n / 10) ++ [UInt8.ofNat (48 + n % 10)]
theorem decS_small {n : Nat} (h : n < 10) : decS n = [UInt8.ofNat (48 + n)] := by rw [decS, dif_pos h]
theorem decS_big {n : Nat} (h : 10 ≤ n) : decS n = decS (n / 10) ++ [UInt8.ofNat (48 + n % 10)] := by rw [decS, dif_neg (by omega)]
theorem decS_parts {n : Nat} (h : 10 ≤ n) : decS n = decS (n / 10) ++ decS (n % 10) := by rw [decS_big h, decS_small (n := n % 10) (by omega)]
theorem dig_nat {d : Nat} (h : d < 10) : (UInt8.ofNat (48 + d)).toNat = 48 + d := by rw [UInt8.toNat_ofNat']; omega
theorem head_app {a b : List UInt8} (h : a ≠ []) : (a ++ b).head? = a.head? := by cases a with | nil => exact absurd rfl h | cons x a => rfl
theorem numF_append (s t : List UInt8) : ∀ (a : Nat), numF a (s ++ t) = (numF a s).bind fun b => numF b t := by
  induction s with
  | nil => intro a; rfl
  | cons c s ih =>
    intro a
    rw [List.cons_append, numF, numF]
    split
    · exact ih _
    · rfl
theorem numF_dec (n : Nat) : numF 0 (decS n) = some n := by
  induction n using Nat.strongRecOn with
  | _ n ih =>
    by_cases h : n < 10
    · rw [decS_small h]
      simp only [numF, dig_nat h]
      rw [if_pos (by omega)]
      simp
    · rw [decS_big (by omega), numF_append, ih (n / 10) (by omega)]
      simp only [Option.bind_some, numF, dig_nat (show n % 10 < 10 by omega)]
      rw [if_pos (by omega)]
      congr 1
      omega
theorem dec_ne_nil (n : Nat) : decS n ≠ [] := by
  by_cases h : n < 10
  · rw [decS_small h]; simp
  · rw [decS_big (by omega)]; simp
theorem dec_head (n : Nat) (hn : 0 < n) : (decS n).head? ≠ some 48 := by
  induction n using Nat.strongRecOn with
  | _ n ih =>
    by_cases h : n < 10
    · rw [decS_small h]
      simp only [List.head?_cons, ne_eq, Option.some.injEq]
      intro e
      have := congrArg UInt8.toNat e
      rw [dig_nat h] at this
      simp at this
      omega
    · rw [decS_big (by omega), head_app (dec_ne_nil _)]
      exact ih (n / 10) (by omega) (by omega)
theorem dec_len {n : Nat} : ∀ (d : Nat), n < 10 ^ (d + 1) → (decS n).length ≤ d + 1 := by
  intro d
  induction d generalizing n with
  | zero => intro h; rw [decS_small (by simpa using h)]; simp
  | succ d ih =>
    intro h
    by_cases h0 : n < 10
    · rw [decS_small h0]; simp
    · rw [decS_big (by omega), List.length_append]
      have := ih (n := n / 10) (by rw [Nat.pow_succ] at h; omega)
      simp; omega
theorem num_dec {n : Nat} (h : n ≤ 9999) : numP (decS n) = some n := by
  unfold numP
  rw [if_neg, numF_dec]
  rintro (h1 | h1 | ⟨h1, h2⟩)
  · exact dec_ne_nil n h1
  · have := dec_len (n := n) 3 (by omega); omega
  · by_cases h0 : n = 0
    · subst h0; exact h2 (by rw [decS_small (by omega)]; rfl)
    · exact dec_head n (by omega) h1
theorem numF_pos (s : List UInt8) : ∀ (a m : Nat), 0 < a → numF a s = some m → 0 < m := by
  induction s with
  | nil => intro a m h e; simp [numF] at e; omega
  | cons c s ih =>
    intro a m h e
    rw [numF] at e
    split at e
    · exact ih _ m (by omega) e
    · cases e
theorem num_some (s : List UInt8) (hs : s ≠ []) : ∀ (k : Nat), numF 0 s = some k → (s.head? = some 48 → s = [48]) → s = decS k := by
  obtain ⟨n, hn⟩ : ∃ n, s.length = n := ⟨_, rfl⟩
  induction n generalizing s with
  | zero => exact absurd (List.eq_nil_of_length_eq_zero hn) hs
  | succ n ih =>
    intro k hk hz
    obtain ⟨t, c, rfl⟩ : ∃ t c, s = t ++ [c] := ⟨s.dropLast, s.getLast hs, (List.dropLast_concat_getLast hs).symm⟩
    rw [numF_append] at hk
    cases ht : numF 0 t with
    | none => rw [ht] at hk; cases hk
    | some m =>
      rw [ht] at hk
      simp only [Option.bind_some, numF] at hk
      split at hk
      · rename_i hc
        simp only [Option.some.injEq] at hk
        have hc8 : UInt8.ofNat (48 + k % 10) = c := by
          have e1 : k % 10 = c.toNat - 48 := by omega
          rw [e1, show 48 + (c.toNat - 48) = c.toNat by omega]
          exact UInt8.ofNat_toNat
        by_cases h0 : t = []
        · subst h0
          simp only [numF, Option.some.injEq] at ht
          have hk10 : k < 10 := by omega
          rw [decS_small hk10, List.nil_append]
          rw [← hc8, show k % 10 = k by omega]
        · have hh : t.head? = (t ++ [c]).head? := by rw [head_app h0]
          have ht48 : t.head? ≠ some 48 := by
            intro e
            have := hz (by rw [← hh]; exact e)
            have := congrArg List.length this
            simp only [List.length_append, List.length_cons, List.length_nil] at this
            exact h0 (List.eq_nil_of_length_eq_zero (by omega))
          have e := ih t h0 (by simp at hn; omega) m ht (fun e => absurd e ht48)
          have hm : 0 < m := by
            cases t with
            | nil => exact absurd rfl h0
            | cons d t' =>
              rw [numF] at ht
              split at ht
              · rename_i hd
                have : d.toNat ≠ 48 := fun e => ht48 (by
                  have : d = 48 := UInt8.toNat_inj.1 (by simpa using e)
                  rw [this]; rfl)
                exact numF_pos t' _ m (by omega) ht
              · cases ht
          have hk10 : 10 ≤ k := by omega
          rw [decS_big hk10, show k / 10 = m by omega, ← e, hc8]
      · cases hk
theorem num_iff {s : List UInt8} {k : Nat} (h : numP s = some k) : s = decS k ∧ k ≤ 9999 := by
  unfold numP at h
  split at h
  · cases h
  · rename_i hn
    simp only [not_or, not_and, Decidable.not_not] at hn
    obtain ⟨h1, h2, h3⟩ := hn
    have e := num_some s h1 k h (fun e => h3 e)
    refine ⟨e, ?_⟩
    by_cases hk : k ≤ 9999
    · exact hk
    · exfalso
      have : ∀ n, 10000 ≤ n → 5 ≤ (decS n).length := by
        intro n
        induction n using Nat.strongRecOn with
        | _ n ih =>
          intro hn
          rw [decS_big (by omega), List.length_append]
          by_cases h : 100000 ≤ n
          · have := ih (n / 10) (by omega) (by omega); simp; omega
          · have l1 : (decS (n / 10)).length ≥ 4 := by
              rw [decS_big (n := n / 10) (by omega), List.length_append, decS_big (n := n / 10 / 10) (by omega), List.length_append, decS_big (n := n / 10 / 10 / 10) (by omega), List.length_append]
              have := dec_ne_nil (n / 10 / 10 / 10 / 10)
              have := List.length_pos_iff.2 this
              simp
              omega
            simp; omega
      have := this k (by omega)
      rw [← e] at this
      omega
end Go.Proofs.YtkboplcffailoaaDoor

/- What decimal and place of package stairwellref do. -/
set_option linter.unusedSimpArgs false
set_option linter.unusedVariables false
namespace Go.Proofs.YtkboplcffailoaaDoor
open Go.RowKit

theorem cat_dec (a b : List UInt8) : ByteArray.mk a.toArray ++ ByteArray.mk b.toArray = ByteArray.mk (a ++ b).toArray := ba_app a b
set_option maxRecDepth 100000 in
set_option maxHeartbeats 4000000 in
theorem rdec_small (w : World) (n : Nat) (hn : n < 10) :
    Calls Tryd.prog 26 #[.int .i64 n] w fun e w' => e = .returned (str (decS n)) ∧ Below w.heap.size w w' := by
  have HD := hidI (decS_small hn)
  have d0 : ¬ (n : Int) < 0 := by omega
  have d1 : (n : Int) < 10 := by omega
  have d2 : (0 : Int) ≤ (n : Int) := by omega
  obtain ⟨c, hc⟩ : ∃ c, Hid (UInt8.ofNat (48 + n) = c) := ⟨_, hidI rfl⟩
  have h8 : Hid (c.toNat = 48 + n) := hidI (by rw [← hc.out, UInt8.toNat_ofNat']; omega)
  rw [hc.out] at HD
  have kc : (convert 51 9 (.slice (some ⟨w.heap.size, 0, none⟩) 1 1)).run Tryd.prog (w.alloc (.cells #[.int .u8 (48 + (n : Int))] 5)) = .ok (.string ⟨#[c]⟩) (w.alloc (.cells #[.int .u8 (48 + (n : Int))] 5)) := by
    have h := run_convert_bytes_back (P := Tryd.prog) (w.alloc (.cells #[.int .u8 (48 + (n : Int))] 5)) 51 9 5 ⟨w.heap.size, 0, none⟩ 1 [c] Tryd.underlying51 Tryd.underlying5 Tryd.underlying9 (by
      intro j hj
      have hj0 : j = 0 := by simp at hj; omega
      subst hj0
      have hv : (([c] : List UInt8)[0].toNat : Int) = 48 + (n : Int) := by simp [h8.out]
      rw [hv]
      exact World.cell?_alloc_at _ _ _ _ rfl)
    exact h
  unfold str
  go_enter Tryd.func26, Tryd.ntmps26
  go_wp2_with fail
  go_ret
  refine ⟨?_, ?_⟩
  · rw [HD.out]; rfl
  · exact bel_alloc _ _
theorem decS_short {n : Nat} (h : n ≤ 9223372036854775807) : (decS n).length ≤ 20 :=
  dec_len 19 (Nat.lt_of_le_of_lt h (by decide))
set_option maxRecDepth 100000 in
set_option maxHeartbeats 4000000 in
theorem rdec_nat (d : Nat) : ∀ (w : World) (n : Nat), n < 10 ^ (d + 1) → n ≤ 9223372036854775807 →
    Calls Tryd.prog 26 #[.int .i64 n] w fun e w' => e = .returned (str (decS n)) ∧ Below w.heap.size w w' := by
  induction d with
  | zero => intro w n h _; exact rdec_small w n (by simpa using h)
  | succ d ih =>
    intro w n h hb
    by_cases hn : n < 10
    · exact rdec_small w n hn
    · have HD := hidI (decS_parts (n := n) (by omega))
      have HL : Hid (n / 10 < 10 ^ (d + 1) ∧ n / 10 ≤ 9223372036854775807 ∧ n % 10 < 10) := hidI ⟨by rw [Nat.pow_succ] at h; omega, by omega, by omega⟩
      have IH := hidI ih
      have hlen : ¬ 9223372036854775807 < (decS (n / 10)).length + (decS (n % 10)).length := by
        have h1 := decS_short (n := n / 10) (by omega)
        have h2 := decS_short (n := n % 10) (by omega)
        omega
      have d0 : ¬ (n : Int) < 0 := by omega
      have d1 : ¬ (n : Int) < 10 := by omega
      have hq : (n : Int).tdiv 10 = ((n / 10 : Nat) : Int) := by rw [Int.tdiv_eq_ediv_of_nonneg (by omega)]; omega
      have hr : (n : Int).tmod 10 = ((n % 10 : Nat) : Int) := by rw [Int.tmod_eq_emod_of_nonneg (by omega)]; omega
      clear ih h
      go_enter Tryd.func26, Tryd.ntmps26
      go_wp2_with fail
      refine (IH.out _ (n / 10) HL.out.1 HL.out.2.1).mono ?_
      rintro e w1 ⟨rfl, hb1⟩
      have K1 := hidI hb1
      clear hb1
      unfold str
      go_wp2_with fail
      refine (rdec_small _ (n % 10) HL.out.2.2).mono ?_
      rintro e w2 ⟨rfl, hb2⟩
      have K2 := hidI (bel_trans K1.out hb2)
      clear hb2
      unfold str
      go_wp2_with fail
      go_ret
      refine ⟨?_, K2.out⟩
      rw [HD.out, str, ← cat_dec]
      rfl
end Go.Proofs.YtkboplcffailoaaDoor

/- What decimal of package stairwellref does, of all numbers. -/
set_option linter.unusedSimpArgs false
set_option linter.unusedVariables false
namespace Go.Proofs.YtkboplcffailoaaDoor
open Go.RowKit

theorem decS_dec (n : Nat) : decS n = Lib.decDigits n := by
  induction n using Nat.strongRecOn with
  | _ n ih =>
    rw [decS, Lib.decDigits]
    by_cases h : n < 10
    · rw [dif_pos h, dif_pos h]
    · rw [dif_neg h, dif_neg h, ih (n / 10) (by omega)]
set_option maxRecDepth 100000 in
set_option maxHeartbeats 4000000 in
theorem rdec_neg (w : World) (u : Nat) (h1 : 1 ≤ u) (h2 : u ≤ 9007199254740992) :
    Calls Tryd.prog 26 #[.int .i64 (-(u : Int))] w fun e w' => e = .returned (str (45 :: decS u)) ∧ Below w.heap.size w w' := by
  have d0 : -(u : Int) < 0 := by omega
  have hl : (decS u).length ≤ 20 := decS_short (by omega)
  have HC : Hid (ByteArray.mk #[45] ++ ByteArray.mk (decS u).toArray = ByteArray.mk (45 :: decS u).toArray) := hidI (ba_app [45] (decS u))
  go_enter Tryd.func26, Tryd.ntmps26
  go_wp2_with fail
  try rw [Int.neg_neg]
  refine (rdec_nat 18 _ u (by omega) (by omega)).mono ?_
  rintro e w1 ⟨rfl, hb1⟩
  have K1 := hidI hb1
  clear hb1
  unfold str
  go_wp2_with fail
  go_ret
  exact ⟨by rw [HC.out]; first | done | rfl, K1.out⟩
theorem rdec_is (w : World) (n : Int) (h1 : -9007199254740992 ≤ n) (h2 : n ≤ 9007199254740992) :
    Calls Tryd.prog 26 #[.int .i64 n] w fun e w' => e = .returned (str (Lib.itoa n)) ∧ Below w.heap.size w w' := by
  by_cases h : n < 0
  · obtain ⟨u, hu⟩ : ∃ u : Nat, n = -(u : Int) := ⟨n.natAbs, by omega⟩
    subst hu
    rw [Lib.itoa_neg u (by omega), ← decS_dec]
    exact rdec_neg w u (by omega) (by omega)
  · obtain ⟨u, hu⟩ : ∃ u : Nat, n = (u : Int) := ⟨n.toNat, by omega⟩
    subst hu
    rw [Lib.itoa_nonneg, ← decS_dec]
    exact rdec_nat 18 w u (by omega) (by omega)
end Go.Proofs.YtkboplcffailoaaDoor

/- A region that draws its order: what yields its value in whatever world is taken first, whatever waits. -/
set_option linter.unusedSimpArgs false
set_option linter.unusedVariables false
namespace Go.Proofs.YtkboplcffailoaaDoor
open Go

section
variable {P : Program} {ops : Array Oper} {Q : Exit → Act → World → Prop} {md : Region.Mode} {S : World → Prop} {T : List Nat}

theorem until_mono {listed : Array Bool} {i : Nat} {T : List Nat} (h : untilB T (listed.setIfInBounds i true) = true) : untilB T listed = true := by
  unfold untilB at h ⊢
  rw [List.all_eq_true] at h ⊢
  intro t ht
  have h0 := h t ht
  by_cases e : i = t
  · subst e
    by_cases hs : i < listed.size
    · simp [Array.getD, hs] at h0
    · simp [Array.getD, hs] at h0
  · rw [getD_set_ne true e] at h0; exact h0
theorem until_set {listed : Array Bool} {i : Nat} {T : List Nat} (hi : i ∉ T) (h : untilB T listed = true) : untilB T (listed.setIfInBounds i true) = true := by
  unfold untilB at h ⊢
  rw [List.all_eq_true] at h ⊢
  intro t ht
  have e : i ≠ t := fun e => hi (e ▸ ht)
  rw [getD_set_ne true e]; exact h t ht
/- What yields its value in whatever world is taken first whatever waits. -/
theorem wpAnyT_firstY {i : Nat} {oi : Oper} {v : Value} (hi : ops[i]? = some oi) (hsel : ∀ (j : Nat) (o : Oper) cs b, ops[j]? = some o → o.op ≠ .select cs b)
    (hQ : ∀ c a w, Q (.panic c) (a.put oi.dst v) w → Q (.panic c) a w) (hiT : i ∉ T) :
    ∀ (fuel : Nat) (listed : Array Bool) (a : Act) (w : World),
      (∀ j oj, ops[j]? = some oj → j ≠ i → listed.getD j true = false → (∀ e ∈ oj.after, Region.binds md e = true → e.on ≠ i) → oi.apart ops oj = true) →
      i ∈ Region.ready md ops listed → Yields P ops oi v a → (untilB T listed = true → S w) →
      wpAnyT P md ops Q S T fuel (listed.setIfInBounds i true) (a.put oi.dst v) w → wpAnyT P md ops Q S T (fuel + 1) listed a w := by
  intro fuel
  induction fuel with
  | zero =>
    intro listed a w _ hr hy hS H
    refine ⟨fun h => (by rw [h] at hr; cases hr), fun j hj => ?_⟩
    by_cases hji : j = i
    · subst hji; exact hy.wpOp hi ⟨fun h => hS (until_mono h), H⟩
    · have := ready_mono hj hji
      rw [H.1] at this
      cases this
  | succ fuel ih =>
    intro listed a w hfree hr hy hS H
    refine ⟨fun h => (by rw [h] at hr; cases hr), fun j hj => ?_⟩
    by_cases hji : j = i
    · subst hji; exact hy.wpOp hi ⟨fun h => hS (until_mono h), H⟩
    · have h1 := H.2 j (ready_mono hj hji)
      obtain ⟨hjun, oj, hoj, hall⟩ := mem_ready.1 hj
      have hnot : ∀ e ∈ oj.after, Region.binds md e = true → e.on ≠ i := fun e he hb heq => by
        have h1 := hall e he hb
        have h0 := (mem_ready.1 hr).1
        rw [heq] at h1
        rcases Nat.lt_or_ge i listed.size with h' | h'
        · simp [h'] at h0 h1; rw [h0] at h1; cases h1
        · simp [Array.getElem?_eq_none h'] at h1
      have h2 := wpOp_put hoj (hfree j oj hoj hji hjun hnot) (fun cs b => hsel i oi cs b hi) (fun cs b => hsel j oj cs b hoj) hQ hy h1
      have hfree' : ∀ k ok, ops[k]? = some ok → k ≠ i → (listed.setIfInBounds j true).getD k true = false →
          (∀ e ∈ ok.after, Region.binds md e = true → e.on ≠ i) → oi.apart ops ok = true := fun k ok hk hki hun hno => by
        refine hfree k ok hk hki ?_ hno
        by_cases hjk : j = k
        · subst hjk; exact hjun
        · rw [getD_set_ne true hjk] at hun; exact hun
      refine wpOp_mono (fun a' w' h3 => ?_) h2
      have hs : untilB T (listed.setIfInBounds j true) = true → S w' := fun h => h3.2.1 (by rw [Array.setIfInBounds_comm _ _ (Ne.symm hji)]; exact until_set hiT h)
      refine ⟨hs, ih (listed.setIfInBounds j true) a' w' hfree' (ready_mono hr (Ne.symm hji)) h3.1 hs ?_⟩
      rw [Array.setIfInBounds_comm _ _ hji]
      exact h3.2.2
theorem wpAnyT_takeY {i : Nat} {oi : Oper} {v : Value} {fuel : Nat} {listed : Array Bool} {a : Act} {w : World} (hi : ops[i]? = some oi)
    (hs : Region.noSelect ops = true) (hf : Region.free md ops listed i = true) (hr : (Region.ready md ops listed).contains i = true) (hT : T.contains i = false)
    (hQ : ∀ c a w, Q (.panic c) (a.put oi.dst v) w → Q (.panic c) a w) (hy : Yields P ops oi v a) (hS : S w)
    (h : wpAnyT P md ops Q S T fuel (listed.setIfInBounds i true) (a.put oi.dst v) w) : wpAnyT P md ops Q S T (fuel + 1) listed a w :=
  wpAnyT_firstY hi (Region.noSelect_spec hs) hQ (by simpa using hT) fuel listed a w (Region.free_spec hi hf) (by simpa using hr) hy (fun _ => hS) h
end
end Go.Proofs.YtkboplcffailoaaDoor

set_option linter.unusedSimpArgs false
set_option linter.unusedVariables false
namespace Go.Proofs.YtkboplcffailoaaDoor
open Go.RowKit

theorem va_leaf {s r ss : List UInt8} {j B d : Nat} {k n : Int} {w' : World} (hj : j ≤ s.length) (hr : s.drop j = r) (hk : I64 k) (hn : I64 n) (hs : ss.length ≤ maxLen) : VaA s (some (leafV k n ss, r)) B (d + 1) (.returned (.tuple #[.agg #[.int .i64 k, .int .i64 n, .string ⟨ss.toArray⟩, .slice none 0 0, .slice none 0 0], .int .i64 j])) w' :=
  ⟨none, none, 0, 0, j, rfl, hj, hr, leaf_is w' _ d k n ss hk hn hs⟩
theorem va_none {s : List UInt8} {B d : Nat} {w' : World} : VaA s none B d (.returned (.tuple #[.agg #[.int .i64 0, .int .i64 0, .string ⟨#[]⟩, .slice none 0 0, .slice none 0 0], .int .i64 (-1)])) w' := ⟨0, 0, [], none, none, 0, 0, 0, 0, rfl⟩
theorem pre_head {c x : UInt8} {r p : List UInt8} (h : c ≠ x) : Lib.hasPrefix (c :: r) (x :: p) = false := by
  unfold Lib.hasPrefix
  rw [List.isPrefixOf_cons_cons]
  have : (x == c) = false := by rw [beq_eq_false_iff_ne]; exact fun e => h e.symm
  simp [this]
theorem tw_dig (p : UInt8 → Bool) : ∀ (r : List UInt8) (t : Nat), t < (r.takeWhile p).length → ∃ h : t < r.length, p r[t] = true
  | [], t, h => by simp at h
  | x :: r, t, h => by
    by_cases hx : p x = true
    · rw [List.takeWhile_cons, if_pos hx] at h
      cases t with
      | zero => exact ⟨by simp, by simpa using hx⟩
      | succ t =>
        obtain ⟨h1, h2⟩ := tw_dig p r t (by simpa using h)
        exact ⟨by simp; omega, by simpa using h2⟩
    · rw [List.takeWhile_cons, if_neg hx] at h
      simp at h
theorem tw_all (p : UInt8 → Bool) : ∀ (r : List UInt8) (x : UInt8), x ∈ r.takeWhile p → p x = true
  | [], x, h => by simp at h
  | y :: r, x, h => by
    by_cases hy : p y = true
    · rw [List.takeWhile_cons, if_pos hy] at h
      rcases List.mem_cons.1 h with rfl | h
      · exact hy
      · exact tw_all p r x h
    · rw [List.takeWhile_cons, if_neg hy] at h
      simp at h
theorem tw_stop (p : UInt8 → Bool) : ∀ (r : List UInt8) (h : (r.takeWhile p).length < r.length), p (r[(r.takeWhile p).length]) = false
  | [], h => by simp at h
  | x :: r, h => by
    by_cases hx : p x = true
    · have e : (x :: r).takeWhile p = x :: r.takeWhile p := by rw [List.takeWhile_cons, if_pos hx]
      have h2 : (r.takeWhile p).length < r.length := by rw [e] at h; simpa using h
      have h3 := tw_stop p r h2
      simp only [e, List.length_cons, List.getElem_cons_succ]
      exact h3
    · have e : (x :: r).takeWhile p = [] := by rw [List.takeWhile_cons, if_neg hx]
      simp only [e, List.length_nil, List.getElem_cons_zero]
      simpa using hx
theorem natD_take (ds : List UInt8) {t : Nat} (h : t < ds.length) : natD (ds.take (t + 1)) = 10 * natD (ds.take t) + (ds[t].toNat - 48) := by
  rw [List.take_succ_eq_append_getElem h, natD_snoc]
theorem natD_more (ds : List UInt8) : ∀ (n t : Nat), t + n ≤ ds.length → natD (ds.take t) ≤ natD (ds.take (t + n))
  | 0, _, _ => Nat.le_refl _
  | n + 1, t, h => by
    have h1 := natD_more ds n t (by omega)
    have h2 := natD_take ds (t := t + n) (by omega)
    rw [show t + (n + 1) = t + n + 1 by omega, h2]
    omega

open Classical in
set_option maxRecDepth 100000 in
set_option maxHeartbeats 40000000 in
theorem rval_zero : RVal 0 := by
  intro w s i dep hdep hs hi
  have hd13 : dep = 13 := by omega
  subst hd13
  clear hdep
  unfold str
  go_enter Tryd.func11, Tryd.ntmps11
  go_upto_region 1 with fail
  obtain ⟨W0, hW0⟩ : ∃ W, w.alloc (.cells #[.int .i64 0, .int .i64 0, .string ⟨#[]⟩, .slice none 0 0, .slice none 0 0] 25) = W := ⟨_, rfl⟩
  have KB : Hid (BoxIs W0 w.heap.size (.int .i64 0) (.int .i64 0) (.string ⟨#[]⟩) (.slice none 0 0) (.slice none 0 0) ∧ Below w.heap.size w W0) := hidI (by rw [← hW0]; exact ⟨heap_alloc_new w _, bel_alloc _ _⟩)
  try rw [hW0]
  clear hW0
  go_wp2_with fail
  refine (skip_at _ s i hs hi).mono ?_
  rintro e w1 ⟨j, rfl, hj1, hj2, hj3, hw1⟩
  have hw9 := hw1.symm
  subst hw9
  clear hw1
  have RS : Hid (valR 0 (s.drop i) = none) := hidI rfl
  clear hj3
  obtain ⟨x0, x1, x2, x3, x4, y0, y1, y2, y3, y4⟩ := KB.out.1.c
  by_cases hlt : (s.length : Int) ≤ (j : Int)
  · have R := hidI (And.intro (bel_set5 KB.out.2 (Nat.le_refl _) (.int .i64 0) (.int .i64 0) (.string ⟨#[]⟩) (.slice none 0 0) (.slice none 0 0)) (KB.out.1.set (.int .i64 0) (.int .i64 0) (.string ⟨#[]⟩) (.slice none 0 0) (.slice none 0 0)))
    go_wp2_with fail
    obtain ⟨r1, r3⟩ := R.out
    obtain ⟨z0, z1, z2, z3, z4, -⟩ := r3.c
    refine bodyPost_ret (v := .tuple #[.agg #[.int .i64 0, .int .i64 0, .string ⟨#[]⟩, .slice none 0 0, .slice none 0 0], .int .i64 (-1)]) ?_ rfl ?_
    · simp only [set5] at z0 z1 z2 z3 z4
      simp [results, Tryd.results11, go_sem, z0, z1, z2, z3, z4]
    · refine ⟨r1, ?_⟩
      rw [RS.out]
      exact va_none
  · have hlt2 : (12 : Int) < 13 := by decide
    have R := hidI (And.intro (bel_set5 KB.out.2 (Nat.le_refl _) (.int .i64 0) (.int .i64 0) (.string ⟨#[]⟩) (.slice none 0 0) (.slice none 0 0)) (KB.out.1.set (.int .i64 0) (.int .i64 0) (.string ⟨#[]⟩) (.slice none 0 0) (.slice none 0 0)))
    go_wp2_with fail
    obtain ⟨r1, r3⟩ := R.out
    obtain ⟨z0, z1, z2, z3, z4, -⟩ := r3.c
    refine bodyPost_ret (v := .tuple #[.agg #[.int .i64 0, .int .i64 0, .string ⟨#[]⟩, .slice none 0 0, .slice none 0 0], .int .i64 (-1)]) ?_ rfl ?_
    · simp only [set5] at z0 z1 z2 z3 z4
      simp [results, Tryd.results11, go_sem, z0, z1, z2, z3, z4]
    · refine ⟨r1, ?_⟩
      rw [RS.out]
      exact va_none
theorem box_words {W0 w : World} (h : BoxIs W0 w.heap.size (.int .i64 0) (.int .i64 0) (.string ⟨#[]⟩) (.slice none 0 0) (.slice none 0 0) ∧ Below w.heap.size w W0) : BoxIs (W0.alloc (.cells #[.string ⟨#[110, 117, 108, 108]⟩, .string ⟨#[102, 97, 108, 115, 101]⟩, .string ⟨#[116, 114, 117, 101]⟩] 9)) w.heap.size (.int .i64 0) (.int .i64 0) (.string ⟨#[]⟩) (.slice none 0 0) (.slice none 0 0) ∧ Below w.heap.size w (W0.alloc (.cells #[.string ⟨#[110, 117, 108, 108]⟩, .string ⟨#[102, 97, 108, 115, 101]⟩, .string ⟨#[116, 114, 117, 101]⟩] 9)) := ⟨box_bel (bel_alloc _ _) h.1, bel_trans h.2 (bel_alloc _ _)⟩
theorem words_at (W0 : World) : (W0.alloc (.cells #[.string ⟨#[110, 117, 108, 108]⟩, .string ⟨#[102, 97, 108, 115, 101]⟩, .string ⟨#[116, 114, 117, 101]⟩] 9)).cell? ⟨W0.heap.size, 0, none⟩ = some (.string ⟨#[110, 117, 108, 108]⟩) ∧ (W0.alloc (.cells #[.string ⟨#[110, 117, 108, 108]⟩, .string ⟨#[102, 97, 108, 115, 101]⟩, .string ⟨#[116, 114, 117, 101]⟩] 9)).cell? ⟨W0.heap.size, 1, none⟩ = some (.string ⟨#[102, 97, 108, 115, 101]⟩) ∧ (W0.alloc (.cells #[.string ⟨#[110, 117, 108, 108]⟩, .string ⟨#[102, 97, 108, 115, 101]⟩, .string ⟨#[116, 114, 117, 101]⟩] 9)).cell? ⟨W0.heap.size, 2, none⟩ = some (.string ⟨#[116, 114, 117, 101]⟩) := by
  have h : (W0.alloc (.cells #[.string ⟨#[110, 117, 108, 108]⟩, .string ⟨#[102, 97, 108, 115, 101]⟩, .string ⟨#[116, 114, 117, 101]⟩] 9)).heap[W0.heap.size]? = some (.cells #[.string ⟨#[110, 117, 108, 108]⟩, .string ⟨#[102, 97, 108, 115, 101]⟩, .string ⟨#[116, 114, 117, 101]⟩] 9) := heap_alloc_new W0 _
  refine ⟨?_, ?_, ?_⟩ <;> simp only [World.cell?, h] <;> rfl
open Classical in
set_option maxRecDepth 100000 in
set_option maxHeartbeats 40000000 in
theorem rval_succ (D : Nat) (ih : RVal D) (hD : D ≤ 11) : RVal (D + 1) := by
  intro w s i dep hdep hs hi
  have IH := hidI ih
  have HDD : Hid (dep + 1 = 13 - (D : Int)) := hidI (by omega)
  have hd12 : ¬ (12 : Int) < dep := by omega
  have hd0' : 0 ≤ dep := by omega
  clear ih hdep
  unfold str
  go_enter Tryd.func11, Tryd.ntmps11
  go_upto_region 1 with fail
  obtain ⟨W0, hW0⟩ : ∃ W, w.alloc (.cells #[.int .i64 0, .int .i64 0, .string ⟨#[]⟩, .slice none 0 0, .slice none 0 0] 25) = W := ⟨_, rfl⟩
  have KB : Hid (BoxIs W0 w.heap.size (.int .i64 0) (.int .i64 0) (.string ⟨#[]⟩) (.slice none 0 0) (.slice none 0 0) ∧ Below w.heap.size w W0) := hidI (by rw [← hW0]; exact ⟨heap_alloc_new w _, bel_alloc _ _⟩)
  try rw [hW0]
  clear hW0
  go_wp2_with fail
  refine (skip_at _ s i hs hi).mono ?_
  rintro e w1 ⟨j, rfl, hj1, hj2, hj3, hw1⟩
  have hw9 := hw1.symm
  subst hw9
  clear hw1
  have RQ : Hid (valR (D + 1) (s.drop i) = oneQ (valR D) (s.drop j)) := hidI (by rw [hj3]; rfl)
  have HNS := hidI hj3
  clear hj3
  by_cases hlt : j < s.length
  · have hcut : (ByteArray.mk s.toArray).extract j s.length = ByteArray.mk (s.drop j).toArray := by rw [cut_ba, List.take_of_length_le (by simp)]
    have hszm : j < (ByteArray.mk s.toArray).size := by rw [ba_len]; exact hlt
    have hgetm : (ByteArray.mk s.toArray)[j] = s[j] := rfl
    have v1 : (0 : Int) ≤ (j : Int) := by omega
    have v2 : (j : Int) < (s.length : Int) := by omega
    have v3 : ¬ (s.length : Int) ≤ (j : Int) := by omega
    have v3d : decide (s.length ≤ j) = false := decide_eq_false (by omega)
    have v3e : decide (12 < dep) = false := decide_eq_false (by omega)
    have v4 : (j : Int) ≤ (s.length : Int) := by omega
    have v5 : (j : Int) ≤ ((ByteArray.mk s.toArray).size : Int) := by rw [ba_len]; omega
    have hdr := List.drop_eq_getElem_cons hlt
    obtain ⟨c, hcj⟩ : ∃ c, s[j] = c := ⟨_, rfl⟩
    rw [hcj] at hgetm hdr
    have HDR := hidI hdr
    have hc256 : (c.toNat : Int) < 256 := by have := c.toNat_lt; omega
    clear hdr
    by_cases hw0 : c = 110
    · have hcm := hw0
      clear hcj hw0
      cases hpre : Lib.hasPrefix (s.drop j) [110, 117, 108, 108] with
      | true =>
        have HP0 : Hid (Lib.hasPrefix (s.drop j) [110, 117, 108, 108] = true) := hidI hpre
        have HWR : Hid (s.drop (j + 4) = (s.drop j).drop 4) := hidI (by rw [List.drop_drop])
        have HWL : Hid (j + 4 ≤ s.length) := hidI (by
          have h9 := List.isPrefixOf_iff_prefix.1 hpre
          have h8 := h9.length_le
          simp at h8
          omega)
        have RS : Hid (valR (D + 1) (s.drop i) = some (leafV 0 0 [], (s.drop j).drop 4)) := hidI (by
          have hp2 : List.isPrefixOf [110, 117, 108, 108] (s.drop j) = true := hpre
          rw [RQ.out]
          unfold oneQ
          have hh : hd0 (s.drop j) = 110 := by rw [HDR.out, hcm]; rfl
          rw [hh]
          simp [wordS, hp2])
        clear hpre
        clear hcm
        go_wp2_with fail
        go_loopg [31] 3 (fun gm iv wi => ∃ m : Nat, m ≤ 0 ∧ gm = 3 - m ∧ iv = .int .i64 m ∧ wi = W0.alloc (.cells #[.string ⟨#[110, 117, 108, 108]⟩, .string ⟨#[102, 97, 108, 115, 101]⟩, .string ⟨#[116, 114, 117, 101]⟩] 9))
        case atStart => exact ⟨0, by omega, rfl, rfl, rfl⟩
        case round =>
          obtain ⟨m, hm, hgm, rfl, rfl⟩ := hrel
          have GM := hidI hgm
          clear hgm
          obtain rfl : m = 0 := by omega
          · have hpx := Tryd.strings_HasPrefix ⟨(s.drop j).toArray⟩ ⟨#[110, 117, 108, 108]⟩ (W0.alloc (.cells #[.string ⟨#[110, 117, 108, 108]⟩, .string ⟨#[102, 97, 108, 115, 101]⟩, .string ⟨#[116, 114, 117, 101]⟩] 9))
            simp only [List.toList_toArray] at hpx
            rw [HP0.out] at hpx
            have cw := (words_at W0).1
            go_wp2_with fail
            refine hpx.mono ?_
            rintro e w2 ⟨rfl, hw2⟩
            subst hw2
            clear hpx
            have KW := hidI (box_words KB.out)
            obtain ⟨x0, x1, x2, x3, x4, y0, y1, y2, y3, y4⟩ := KW.out.1.c
            have KX : Hid (BoxIs ((W0.alloc (.cells #[.string ⟨#[110, 117, 108, 108]⟩, .string ⟨#[102, 97, 108, 115, 101]⟩, .string ⟨#[116, 114, 117, 101]⟩] 9)).alloc (.cells #[.int .i64 0, .int .i64 0, .string ⟨#[]⟩, .slice none 0 0, .slice none 0 0, .int .i64 1, .int .i64 0, .string ⟨#[]⟩, .slice none 0 0, .slice none 0 0, .int .i64 1, .int .i64 1, .string ⟨#[]⟩, .slice none 0 0, .slice none 0 0] 25)) w.heap.size (.int .i64 0) (.int .i64 0) (.string ⟨#[]⟩) (.slice none 0 0) (.slice none 0 0) ∧ Below w.heap.size w ((W0.alloc (.cells #[.string ⟨#[110, 117, 108, 108]⟩, .string ⟨#[102, 97, 108, 115, 101]⟩, .string ⟨#[116, 114, 117, 101]⟩] 9)).alloc (.cells #[.int .i64 0, .int .i64 0, .string ⟨#[]⟩, .slice none 0 0, .slice none 0 0, .int .i64 1, .int .i64 0, .string ⟨#[]⟩, .slice none 0 0, .slice none 0 0, .int .i64 1, .int .i64 1, .string ⟨#[]⟩, .slice none 0 0, .slice none 0 0] 25))) := hidI ⟨box_bel (bel_alloc _ _) KW.out.1, bel_trans KW.out.2 (bel_alloc _ _)⟩
            clear x0 x1 x2 x3 x4 y0 y1 y2 y3 y4
            obtain ⟨x0, x1, x2, x3, x4, y0, y1, y2, y3, y4⟩ := KX.out.1.c
            have R := hidI (And.intro (bel_set5 KX.out.2 (Nat.le_refl _) (.int .i64 0) (.int .i64 0) (.string ⟨#[]⟩) (.slice none 0 0) (.slice none 0 0)) (KX.out.1.set (.int .i64 0) (.int .i64 0) (.string ⟨#[]⟩) (.slice none 0 0) (.slice none 0 0)))
            go_wp2_with fail
            obtain ⟨r1, r3⟩ := R.out
            obtain ⟨z0, z1, z2, z3, z4, -⟩ := r3.c
            refine bodyPost_ret (v := .tuple #[.agg #[.int .i64 0, .int .i64 0, .string ⟨#[]⟩, .slice none 0 0, .slice none 0 0], .int .i64 ((j + 4 : Nat) : Int)]) ?_ rfl ?_
            · simp only [set5] at z0 z1 z2 z3 z4
              simp [results, Tryd.results11, go_sem, z0, z1, z2, z3, z4]
            · refine ⟨r1, ?_⟩
              rw [RS.out]
              exact va_leaf (j := j + 4) HWL.out HWR.out (by unfold I64; omega) (by unfold I64; omega) (by simp)
      | false =>
        have HP0 : Hid (Lib.hasPrefix (s.drop j) [110, 117, 108, 108] = false) := hidI hpre
        have RS : Hid (valR (D + 1) (s.drop i) = none) := hidI (by
          have hp2 : List.isPrefixOf [110, 117, 108, 108] (s.drop j) = false := hpre
          rw [RQ.out]
          unfold oneQ
          have hh : hd0 (s.drop j) = 110 := by rw [HDR.out, hcm]; rfl
          rw [hh]
          simp [wordS, hp2])
        have HP1 : Hid (Lib.hasPrefix (s.drop j) [102, 97, 108, 115, 101] = false) := hidI (by rw [HDR.out]; exact pre_head (by rw [hcm]; decide))
        have HP2 : Hid (Lib.hasPrefix (s.drop j) [116, 114, 117, 101] = false) := hidI (by rw [HDR.out]; exact pre_head (by rw [hcm]; decide))
        have E34 : ((c.toNat : Int) == 34) = false := by rw [hcm]; rfl
        have E45 : ((c.toNat : Int) == 45) = false := by rw [hcm]; rfl
        have E91 : ((c.toNat : Int) == 91) = false := by rw [hcm]; rfl
        have E123 : ((c.toNat : Int) == 123) = false := by rw [hcm]; rfl
        have G48 : (48 : Int) ≤ (c.toNat : Int) := by rw [hcm]; decide
        have G57 : ¬ (c.toNat : Int) ≤ 57 := by rw [hcm]; decide
        clear hcm hpre
        go_wp2_with fail
        go_loopg [31] 3 (fun gm iv wi => ∃ m : Nat, m ≤ 3 ∧ gm = 3 - m ∧ iv = .int .i64 m ∧ wi = W0.alloc (.cells #[.string ⟨#[110, 117, 108, 108]⟩, .string ⟨#[102, 97, 108, 115, 101]⟩, .string ⟨#[116, 114, 117, 101]⟩] 9))
        case atStart => exact ⟨0, by omega, rfl, rfl, rfl⟩
        case round =>
          obtain ⟨m, hm, hgm, rfl, rfl⟩ := hrel
          have GM := hidI hgm
          clear hgm
          rcases (show m = 0 ∨ m = 1 ∨ m = 2 ∨ m = 3 by omega) with rfl | rfl | rfl | rfl
          · have hpx := Tryd.strings_HasPrefix ⟨(s.drop j).toArray⟩ ⟨#[110, 117, 108, 108]⟩ (W0.alloc (.cells #[.string ⟨#[110, 117, 108, 108]⟩, .string ⟨#[102, 97, 108, 115, 101]⟩, .string ⟨#[116, 114, 117, 101]⟩] 9))
            simp only [List.toList_toArray] at hpx
            rw [HP0.out] at hpx
            have cw := (words_at W0).1
            go_wp2_with fail
            refine hpx.mono ?_
            rintro e w2 ⟨rfl, hw2⟩
            subst hw2
            clear hpx
            go_wp2_with fail
            go_roundg 2
            case measure => rw [GM.out]; omega
            case rel => exact ⟨1, by omega, rfl, by go_num, rfl⟩
          · have hpx := Tryd.strings_HasPrefix ⟨(s.drop j).toArray⟩ ⟨#[102, 97, 108, 115, 101]⟩ (W0.alloc (.cells #[.string ⟨#[110, 117, 108, 108]⟩, .string ⟨#[102, 97, 108, 115, 101]⟩, .string ⟨#[116, 114, 117, 101]⟩] 9))
            simp only [List.toList_toArray] at hpx
            rw [HP1.out] at hpx
            have cw := (words_at W0).2.1
            go_wp2_with fail
            refine hpx.mono ?_
            rintro e w2 ⟨rfl, hw2⟩
            subst hw2
            clear hpx
            go_wp2_with fail
            go_roundg 1
            case measure => rw [GM.out]; omega
            case rel => exact ⟨2, by omega, rfl, by go_num, rfl⟩
          · have hpx := Tryd.strings_HasPrefix ⟨(s.drop j).toArray⟩ ⟨#[116, 114, 117, 101]⟩ (W0.alloc (.cells #[.string ⟨#[110, 117, 108, 108]⟩, .string ⟨#[102, 97, 108, 115, 101]⟩, .string ⟨#[116, 114, 117, 101]⟩] 9))
            simp only [List.toList_toArray] at hpx
            rw [HP2.out] at hpx
            have cw := (words_at W0).2.2
            go_wp2_with fail
            refine hpx.mono ?_
            rintro e w2 ⟨rfl, hw2⟩
            subst hw2
            clear hpx
            go_wp2_with fail
            go_roundg 0
            case measure => rw [GM.out]; omega
            case rel => exact ⟨3, by omega, rfl, by go_num, rfl⟩
          · have d3 : ¬ ((3 : Nat) : Int) < 3 := by omega
            have KW := hidI (box_words KB.out)
            obtain ⟨x0, x1, x2, x3, x4, y0, y1, y2, y3, y4⟩ := KW.out.1.c
            have R := hidI (And.intro (bel_set5 KW.out.2 (Nat.le_refl _) (.int .i64 0) (.int .i64 0) (.string ⟨#[]⟩) (.slice none 0 0) (.slice none 0 0)) (KW.out.1.set (.int .i64 0) (.int .i64 0) (.string ⟨#[]⟩) (.slice none 0 0) (.slice none 0 0)))
            go_wp2_with fail
            obtain ⟨r1, r3⟩ := R.out
            obtain ⟨z0, z1, z2, z3, z4, -⟩ := r3.c
            refine bodyPost_ret (v := .tuple #[.agg #[.int .i64 0, .int .i64 0, .string ⟨#[]⟩, .slice none 0 0, .slice none 0 0], .int .i64 (-1)]) ?_ rfl ?_
            · simp only [set5] at z0 z1 z2 z3 z4
              simp [results, Tryd.results11, go_sem, z0, z1, z2, z3, z4]
            · refine ⟨r1, ?_⟩
              rw [RS.out]
              exact va_none
    by_cases hw1 : c = 102
    · have hcm := hw1
      clear hcj hw1
      cases hpre : Lib.hasPrefix (s.drop j) [102, 97, 108, 115, 101] with
      | true =>
        have HP0 : Hid (Lib.hasPrefix (s.drop j) [110, 117, 108, 108] = false) := hidI (by rw [HDR.out]; exact pre_head (by rw [hcm]; decide))
        have HP1 : Hid (Lib.hasPrefix (s.drop j) [102, 97, 108, 115, 101] = true) := hidI hpre
        have HWR : Hid (s.drop (j + 5) = (s.drop j).drop 5) := hidI (by rw [List.drop_drop])
        have HWL : Hid (j + 5 ≤ s.length) := hidI (by
          have h9 := List.isPrefixOf_iff_prefix.1 hpre
          have h8 := h9.length_le
          simp at h8
          omega)
        have RS : Hid (valR (D + 1) (s.drop i) = some (leafV 1 0 [], (s.drop j).drop 5)) := hidI (by
          have hp2 : List.isPrefixOf [102, 97, 108, 115, 101] (s.drop j) = true := hpre
          rw [RQ.out]
          unfold oneQ
          have hh : hd0 (s.drop j) = 102 := by rw [HDR.out, hcm]; rfl
          rw [hh]
          simp [wordS, hp2])
        clear hpre
        clear hcm
        go_wp2_with fail
        go_loopg [31] 3 (fun gm iv wi => ∃ m : Nat, m ≤ 1 ∧ gm = 3 - m ∧ iv = .int .i64 m ∧ wi = W0.alloc (.cells #[.string ⟨#[110, 117, 108, 108]⟩, .string ⟨#[102, 97, 108, 115, 101]⟩, .string ⟨#[116, 114, 117, 101]⟩] 9))
        case atStart => exact ⟨0, by omega, rfl, rfl, rfl⟩
        case round =>
          obtain ⟨m, hm, hgm, rfl, rfl⟩ := hrel
          have GM := hidI hgm
          clear hgm
          rcases (show m = 0 ∨ m = 1 by omega) with rfl | rfl
          · have hpx := Tryd.strings_HasPrefix ⟨(s.drop j).toArray⟩ ⟨#[110, 117, 108, 108]⟩ (W0.alloc (.cells #[.string ⟨#[110, 117, 108, 108]⟩, .string ⟨#[102, 97, 108, 115, 101]⟩, .string ⟨#[116, 114, 117, 101]⟩] 9))
            simp only [List.toList_toArray] at hpx
            rw [HP0.out] at hpx
            have cw := (words_at W0).1
            go_wp2_with fail
            refine hpx.mono ?_
            rintro e w2 ⟨rfl, hw2⟩
            subst hw2
            clear hpx
            go_wp2_with fail
            go_roundg 2
            case measure => rw [GM.out]; omega
            case rel => exact ⟨1, by omega, rfl, by go_num, rfl⟩
          · have hpx := Tryd.strings_HasPrefix ⟨(s.drop j).toArray⟩ ⟨#[102, 97, 108, 115, 101]⟩ (W0.alloc (.cells #[.string ⟨#[110, 117, 108, 108]⟩, .string ⟨#[102, 97, 108, 115, 101]⟩, .string ⟨#[116, 114, 117, 101]⟩] 9))
            simp only [List.toList_toArray] at hpx
            rw [HP1.out] at hpx
            have cw := (words_at W0).2.1
            go_wp2_with fail
            refine hpx.mono ?_
            rintro e w2 ⟨rfl, hw2⟩
            subst hw2
            clear hpx
            have KW := hidI (box_words KB.out)
            obtain ⟨x0, x1, x2, x3, x4, y0, y1, y2, y3, y4⟩ := KW.out.1.c
            have KX : Hid (BoxIs ((W0.alloc (.cells #[.string ⟨#[110, 117, 108, 108]⟩, .string ⟨#[102, 97, 108, 115, 101]⟩, .string ⟨#[116, 114, 117, 101]⟩] 9)).alloc (.cells #[.int .i64 0, .int .i64 0, .string ⟨#[]⟩, .slice none 0 0, .slice none 0 0, .int .i64 1, .int .i64 0, .string ⟨#[]⟩, .slice none 0 0, .slice none 0 0, .int .i64 1, .int .i64 1, .string ⟨#[]⟩, .slice none 0 0, .slice none 0 0] 25)) w.heap.size (.int .i64 0) (.int .i64 0) (.string ⟨#[]⟩) (.slice none 0 0) (.slice none 0 0) ∧ Below w.heap.size w ((W0.alloc (.cells #[.string ⟨#[110, 117, 108, 108]⟩, .string ⟨#[102, 97, 108, 115, 101]⟩, .string ⟨#[116, 114, 117, 101]⟩] 9)).alloc (.cells #[.int .i64 0, .int .i64 0, .string ⟨#[]⟩, .slice none 0 0, .slice none 0 0, .int .i64 1, .int .i64 0, .string ⟨#[]⟩, .slice none 0 0, .slice none 0 0, .int .i64 1, .int .i64 1, .string ⟨#[]⟩, .slice none 0 0, .slice none 0 0] 25))) := hidI ⟨box_bel (bel_alloc _ _) KW.out.1, bel_trans KW.out.2 (bel_alloc _ _)⟩
            clear x0 x1 x2 x3 x4 y0 y1 y2 y3 y4
            obtain ⟨x0, x1, x2, x3, x4, y0, y1, y2, y3, y4⟩ := KX.out.1.c
            have R := hidI (And.intro (bel_set5 KX.out.2 (Nat.le_refl _) (.int .i64 1) (.int .i64 0) (.string ⟨#[]⟩) (.slice none 0 0) (.slice none 0 0)) (KX.out.1.set (.int .i64 1) (.int .i64 0) (.string ⟨#[]⟩) (.slice none 0 0) (.slice none 0 0)))
            go_wp2_with fail
            obtain ⟨r1, r3⟩ := R.out
            obtain ⟨z0, z1, z2, z3, z4, -⟩ := r3.c
            refine bodyPost_ret (v := .tuple #[.agg #[.int .i64 1, .int .i64 0, .string ⟨#[]⟩, .slice none 0 0, .slice none 0 0], .int .i64 ((j + 5 : Nat) : Int)]) ?_ rfl ?_
            · simp only [set5] at z0 z1 z2 z3 z4
              simp [results, Tryd.results11, go_sem, z0, z1, z2, z3, z4]
            · refine ⟨r1, ?_⟩
              rw [RS.out]
              exact va_leaf (j := j + 5) HWL.out HWR.out (by unfold I64; omega) (by unfold I64; omega) (by simp)
      | false =>
        have HP1 : Hid (Lib.hasPrefix (s.drop j) [102, 97, 108, 115, 101] = false) := hidI hpre
        have RS : Hid (valR (D + 1) (s.drop i) = none) := hidI (by
          have hp2 : List.isPrefixOf [102, 97, 108, 115, 101] (s.drop j) = false := hpre
          rw [RQ.out]
          unfold oneQ
          have hh : hd0 (s.drop j) = 102 := by rw [HDR.out, hcm]; rfl
          rw [hh]
          simp [wordS, hp2])
        have HP0 : Hid (Lib.hasPrefix (s.drop j) [110, 117, 108, 108] = false) := hidI (by rw [HDR.out]; exact pre_head (by rw [hcm]; decide))
        have HP2 : Hid (Lib.hasPrefix (s.drop j) [116, 114, 117, 101] = false) := hidI (by rw [HDR.out]; exact pre_head (by rw [hcm]; decide))
        have E34 : ((c.toNat : Int) == 34) = false := by rw [hcm]; rfl
        have E45 : ((c.toNat : Int) == 45) = false := by rw [hcm]; rfl
        have E91 : ((c.toNat : Int) == 91) = false := by rw [hcm]; rfl
        have E123 : ((c.toNat : Int) == 123) = false := by rw [hcm]; rfl
        have G48 : (48 : Int) ≤ (c.toNat : Int) := by rw [hcm]; decide
        have G57 : ¬ (c.toNat : Int) ≤ 57 := by rw [hcm]; decide
        clear hcm hpre
        go_wp2_with fail
        go_loopg [31] 3 (fun gm iv wi => ∃ m : Nat, m ≤ 3 ∧ gm = 3 - m ∧ iv = .int .i64 m ∧ wi = W0.alloc (.cells #[.string ⟨#[110, 117, 108, 108]⟩, .string ⟨#[102, 97, 108, 115, 101]⟩, .string ⟨#[116, 114, 117, 101]⟩] 9))
        case atStart => exact ⟨0, by omega, rfl, rfl, rfl⟩
        case round =>
          obtain ⟨m, hm, hgm, rfl, rfl⟩ := hrel
          have GM := hidI hgm
          clear hgm
          rcases (show m = 0 ∨ m = 1 ∨ m = 2 ∨ m = 3 by omega) with rfl | rfl | rfl | rfl
          · have hpx := Tryd.strings_HasPrefix ⟨(s.drop j).toArray⟩ ⟨#[110, 117, 108, 108]⟩ (W0.alloc (.cells #[.string ⟨#[110, 117, 108, 108]⟩, .string ⟨#[102, 97, 108, 115, 101]⟩, .string ⟨#[116, 114, 117, 101]⟩] 9))
            simp only [List.toList_toArray] at hpx
            rw [HP0.out] at hpx
            have cw := (words_at W0).1
            go_wp2_with fail
            refine hpx.mono ?_
            rintro e w2 ⟨rfl, hw2⟩
            subst hw2
            clear hpx
            go_wp2_with fail
            go_roundg 2
            case measure => rw [GM.out]; omega
            case rel => exact ⟨1, by omega, rfl, by go_num, rfl⟩
          · have hpx := Tryd.strings_HasPrefix ⟨(s.drop j).toArray⟩ ⟨#[102, 97, 108, 115, 101]⟩ (W0.alloc (.cells #[.string ⟨#[110, 117, 108, 108]⟩, .string ⟨#[102, 97, 108, 115, 101]⟩, .string ⟨#[116, 114, 117, 101]⟩] 9))
            simp only [List.toList_toArray] at hpx
            rw [HP1.out] at hpx
            have cw := (words_at W0).2.1
            go_wp2_with fail
            refine hpx.mono ?_
            rintro e w2 ⟨rfl, hw2⟩
            subst hw2
            clear hpx
            go_wp2_with fail
            go_roundg 1
            case measure => rw [GM.out]; omega
            case rel => exact ⟨2, by omega, rfl, by go_num, rfl⟩
          · have hpx := Tryd.strings_HasPrefix ⟨(s.drop j).toArray⟩ ⟨#[116, 114, 117, 101]⟩ (W0.alloc (.cells #[.string ⟨#[110, 117, 108, 108]⟩, .string ⟨#[102, 97, 108, 115, 101]⟩, .string ⟨#[116, 114, 117, 101]⟩] 9))
            simp only [List.toList_toArray] at hpx
            rw [HP2.out] at hpx
            have cw := (words_at W0).2.2
            go_wp2_with fail
            refine hpx.mono ?_
            rintro e w2 ⟨rfl, hw2⟩
            subst hw2
            clear hpx
            go_wp2_with fail
            go_roundg 0
            case measure => rw [GM.out]; omega
            case rel => exact ⟨3, by omega, rfl, by go_num, rfl⟩
          · have d3 : ¬ ((3 : Nat) : Int) < 3 := by omega
            have KW := hidI (box_words KB.out)
            obtain ⟨x0, x1, x2, x3, x4, y0, y1, y2, y3, y4⟩ := KW.out.1.c
            have R := hidI (And.intro (bel_set5 KW.out.2 (Nat.le_refl _) (.int .i64 0) (.int .i64 0) (.string ⟨#[]⟩) (.slice none 0 0) (.slice none 0 0)) (KW.out.1.set (.int .i64 0) (.int .i64 0) (.string ⟨#[]⟩) (.slice none 0 0) (.slice none 0 0)))
            go_wp2_with fail
            obtain ⟨r1, r3⟩ := R.out
            obtain ⟨z0, z1, z2, z3, z4, -⟩ := r3.c
            refine bodyPost_ret (v := .tuple #[.agg #[.int .i64 0, .int .i64 0, .string ⟨#[]⟩, .slice none 0 0, .slice none 0 0], .int .i64 (-1)]) ?_ rfl ?_
            · simp only [set5] at z0 z1 z2 z3 z4
              simp [results, Tryd.results11, go_sem, z0, z1, z2, z3, z4]
            · refine ⟨r1, ?_⟩
              rw [RS.out]
              exact va_none
    by_cases hw2 : c = 116
    · have hcm := hw2
      clear hcj hw2
      cases hpre : Lib.hasPrefix (s.drop j) [116, 114, 117, 101] with
      | true =>
        have HP0 : Hid (Lib.hasPrefix (s.drop j) [110, 117, 108, 108] = false) := hidI (by rw [HDR.out]; exact pre_head (by rw [hcm]; decide))
        have HP1 : Hid (Lib.hasPrefix (s.drop j) [102, 97, 108, 115, 101] = false) := hidI (by rw [HDR.out]; exact pre_head (by rw [hcm]; decide))
        have HP2 : Hid (Lib.hasPrefix (s.drop j) [116, 114, 117, 101] = true) := hidI hpre
        have HWR : Hid (s.drop (j + 4) = (s.drop j).drop 4) := hidI (by rw [List.drop_drop])
        have HWL : Hid (j + 4 ≤ s.length) := hidI (by
          have h9 := List.isPrefixOf_iff_prefix.1 hpre
          have h8 := h9.length_le
          simp at h8
          omega)
        have RS : Hid (valR (D + 1) (s.drop i) = some (leafV 1 1 [], (s.drop j).drop 4)) := hidI (by
          have hp2 : List.isPrefixOf [116, 114, 117, 101] (s.drop j) = true := hpre
          rw [RQ.out]
          unfold oneQ
          have hh : hd0 (s.drop j) = 116 := by rw [HDR.out, hcm]; rfl
          rw [hh]
          simp [wordS, hp2])
        clear hpre
        clear hcm
        go_wp2_with fail
        go_loopg [31] 3 (fun gm iv wi => ∃ m : Nat, m ≤ 2 ∧ gm = 3 - m ∧ iv = .int .i64 m ∧ wi = W0.alloc (.cells #[.string ⟨#[110, 117, 108, 108]⟩, .string ⟨#[102, 97, 108, 115, 101]⟩, .string ⟨#[116, 114, 117, 101]⟩] 9))
        case atStart => exact ⟨0, by omega, rfl, rfl, rfl⟩
        case round =>
          obtain ⟨m, hm, hgm, rfl, rfl⟩ := hrel
          have GM := hidI hgm
          clear hgm
          rcases (show m = 0 ∨ m = 1 ∨ m = 2 by omega) with rfl | rfl | rfl
          · have hpx := Tryd.strings_HasPrefix ⟨(s.drop j).toArray⟩ ⟨#[110, 117, 108, 108]⟩ (W0.alloc (.cells #[.string ⟨#[110, 117, 108, 108]⟩, .string ⟨#[102, 97, 108, 115, 101]⟩, .string ⟨#[116, 114, 117, 101]⟩] 9))
            simp only [List.toList_toArray] at hpx
            rw [HP0.out] at hpx
            have cw := (words_at W0).1
            go_wp2_with fail
            refine hpx.mono ?_
            rintro e w2 ⟨rfl, hw2⟩
            subst hw2
            clear hpx
            go_wp2_with fail
            go_roundg 2
            case measure => rw [GM.out]; omega
            case rel => exact ⟨1, by omega, rfl, by go_num, rfl⟩
          · have hpx := Tryd.strings_HasPrefix ⟨(s.drop j).toArray⟩ ⟨#[102, 97, 108, 115, 101]⟩ (W0.alloc (.cells #[.string ⟨#[110, 117, 108, 108]⟩, .string ⟨#[102, 97, 108, 115, 101]⟩, .string ⟨#[116, 114, 117, 101]⟩] 9))
            simp only [List.toList_toArray] at hpx
            rw [HP1.out] at hpx
            have cw := (words_at W0).2.1
            go_wp2_with fail
            refine hpx.mono ?_
            rintro e w2 ⟨rfl, hw2⟩
            subst hw2
            clear hpx
            go_wp2_with fail
            go_roundg 1
            case measure => rw [GM.out]; omega
            case rel => exact ⟨2, by omega, rfl, by go_num, rfl⟩
          · have hpx := Tryd.strings_HasPrefix ⟨(s.drop j).toArray⟩ ⟨#[116, 114, 117, 101]⟩ (W0.alloc (.cells #[.string ⟨#[110, 117, 108, 108]⟩, .string ⟨#[102, 97, 108, 115, 101]⟩, .string ⟨#[116, 114, 117, 101]⟩] 9))
            simp only [List.toList_toArray] at hpx
            rw [HP2.out] at hpx
            have cw := (words_at W0).2.2
            go_wp2_with fail
            refine hpx.mono ?_
            rintro e w2 ⟨rfl, hw2⟩
            subst hw2
            clear hpx
            have KW := hidI (box_words KB.out)
            obtain ⟨x0, x1, x2, x3, x4, y0, y1, y2, y3, y4⟩ := KW.out.1.c
            have KX : Hid (BoxIs ((W0.alloc (.cells #[.string ⟨#[110, 117, 108, 108]⟩, .string ⟨#[102, 97, 108, 115, 101]⟩, .string ⟨#[116, 114, 117, 101]⟩] 9)).alloc (.cells #[.int .i64 0, .int .i64 0, .string ⟨#[]⟩, .slice none 0 0, .slice none 0 0, .int .i64 1, .int .i64 0, .string ⟨#[]⟩, .slice none 0 0, .slice none 0 0, .int .i64 1, .int .i64 1, .string ⟨#[]⟩, .slice none 0 0, .slice none 0 0] 25)) w.heap.size (.int .i64 0) (.int .i64 0) (.string ⟨#[]⟩) (.slice none 0 0) (.slice none 0 0) ∧ Below w.heap.size w ((W0.alloc (.cells #[.string ⟨#[110, 117, 108, 108]⟩, .string ⟨#[102, 97, 108, 115, 101]⟩, .string ⟨#[116, 114, 117, 101]⟩] 9)).alloc (.cells #[.int .i64 0, .int .i64 0, .string ⟨#[]⟩, .slice none 0 0, .slice none 0 0, .int .i64 1, .int .i64 0, .string ⟨#[]⟩, .slice none 0 0, .slice none 0 0, .int .i64 1, .int .i64 1, .string ⟨#[]⟩, .slice none 0 0, .slice none 0 0] 25))) := hidI ⟨box_bel (bel_alloc _ _) KW.out.1, bel_trans KW.out.2 (bel_alloc _ _)⟩
            clear x0 x1 x2 x3 x4 y0 y1 y2 y3 y4
            obtain ⟨x0, x1, x2, x3, x4, y0, y1, y2, y3, y4⟩ := KX.out.1.c
            have R := hidI (And.intro (bel_set5 KX.out.2 (Nat.le_refl _) (.int .i64 1) (.int .i64 1) (.string ⟨#[]⟩) (.slice none 0 0) (.slice none 0 0)) (KX.out.1.set (.int .i64 1) (.int .i64 1) (.string ⟨#[]⟩) (.slice none 0 0) (.slice none 0 0)))
            go_wp2_with fail
            obtain ⟨r1, r3⟩ := R.out
            obtain ⟨z0, z1, z2, z3, z4, -⟩ := r3.c
            refine bodyPost_ret (v := .tuple #[.agg #[.int .i64 1, .int .i64 1, .string ⟨#[]⟩, .slice none 0 0, .slice none 0 0], .int .i64 ((j + 4 : Nat) : Int)]) ?_ rfl ?_
            · simp only [set5] at z0 z1 z2 z3 z4
              simp [results, Tryd.results11, go_sem, z0, z1, z2, z3, z4]
            · refine ⟨r1, ?_⟩
              rw [RS.out]
              exact va_leaf (j := j + 4) HWL.out HWR.out (by unfold I64; omega) (by unfold I64; omega) (by simp)
      | false =>
        have HP2 : Hid (Lib.hasPrefix (s.drop j) [116, 114, 117, 101] = false) := hidI hpre
        have RS : Hid (valR (D + 1) (s.drop i) = none) := hidI (by
          have hp2 : List.isPrefixOf [116, 114, 117, 101] (s.drop j) = false := hpre
          rw [RQ.out]
          unfold oneQ
          have hh : hd0 (s.drop j) = 116 := by rw [HDR.out, hcm]; rfl
          rw [hh]
          simp [wordS, hp2])
        have HP0 : Hid (Lib.hasPrefix (s.drop j) [110, 117, 108, 108] = false) := hidI (by rw [HDR.out]; exact pre_head (by rw [hcm]; decide))
        have HP1 : Hid (Lib.hasPrefix (s.drop j) [102, 97, 108, 115, 101] = false) := hidI (by rw [HDR.out]; exact pre_head (by rw [hcm]; decide))
        have E34 : ((c.toNat : Int) == 34) = false := by rw [hcm]; rfl
        have E45 : ((c.toNat : Int) == 45) = false := by rw [hcm]; rfl
        have E91 : ((c.toNat : Int) == 91) = false := by rw [hcm]; rfl
        have E123 : ((c.toNat : Int) == 123) = false := by rw [hcm]; rfl
        have G48 : (48 : Int) ≤ (c.toNat : Int) := by rw [hcm]; decide
        have G57 : ¬ (c.toNat : Int) ≤ 57 := by rw [hcm]; decide
        clear hcm hpre
        go_wp2_with fail
        go_loopg [31] 3 (fun gm iv wi => ∃ m : Nat, m ≤ 3 ∧ gm = 3 - m ∧ iv = .int .i64 m ∧ wi = W0.alloc (.cells #[.string ⟨#[110, 117, 108, 108]⟩, .string ⟨#[102, 97, 108, 115, 101]⟩, .string ⟨#[116, 114, 117, 101]⟩] 9))
        case atStart => exact ⟨0, by omega, rfl, rfl, rfl⟩
        case round =>
          obtain ⟨m, hm, hgm, rfl, rfl⟩ := hrel
          have GM := hidI hgm
          clear hgm
          rcases (show m = 0 ∨ m = 1 ∨ m = 2 ∨ m = 3 by omega) with rfl | rfl | rfl | rfl
          · have hpx := Tryd.strings_HasPrefix ⟨(s.drop j).toArray⟩ ⟨#[110, 117, 108, 108]⟩ (W0.alloc (.cells #[.string ⟨#[110, 117, 108, 108]⟩, .string ⟨#[102, 97, 108, 115, 101]⟩, .string ⟨#[116, 114, 117, 101]⟩] 9))
            simp only [List.toList_toArray] at hpx
            rw [HP0.out] at hpx
            have cw := (words_at W0).1
            go_wp2_with fail
            refine hpx.mono ?_
            rintro e w2 ⟨rfl, hw2⟩
            subst hw2
            clear hpx
            go_wp2_with fail
            go_roundg 2
            case measure => rw [GM.out]; omega
            case rel => exact ⟨1, by omega, rfl, by go_num, rfl⟩
          · have hpx := Tryd.strings_HasPrefix ⟨(s.drop j).toArray⟩ ⟨#[102, 97, 108, 115, 101]⟩ (W0.alloc (.cells #[.string ⟨#[110, 117, 108, 108]⟩, .string ⟨#[102, 97, 108, 115, 101]⟩, .string ⟨#[116, 114, 117, 101]⟩] 9))
            simp only [List.toList_toArray] at hpx
            rw [HP1.out] at hpx
            have cw := (words_at W0).2.1
            go_wp2_with fail
            refine hpx.mono ?_
            rintro e w2 ⟨rfl, hw2⟩
            subst hw2
            clear hpx
            go_wp2_with fail
            go_roundg 1
            case measure => rw [GM.out]; omega
            case rel => exact ⟨2, by omega, rfl, by go_num, rfl⟩
          · have hpx := Tryd.strings_HasPrefix ⟨(s.drop j).toArray⟩ ⟨#[116, 114, 117, 101]⟩ (W0.alloc (.cells #[.string ⟨#[110, 117, 108, 108]⟩, .string ⟨#[102, 97, 108, 115, 101]⟩, .string ⟨#[116, 114, 117, 101]⟩] 9))
            simp only [List.toList_toArray] at hpx
            rw [HP2.out] at hpx
            have cw := (words_at W0).2.2
            go_wp2_with fail
            refine hpx.mono ?_
            rintro e w2 ⟨rfl, hw2⟩
            subst hw2
            clear hpx
            go_wp2_with fail
            go_roundg 0
            case measure => rw [GM.out]; omega
            case rel => exact ⟨3, by omega, rfl, by go_num, rfl⟩
          · have d3 : ¬ ((3 : Nat) : Int) < 3 := by omega
            have KW := hidI (box_words KB.out)
            obtain ⟨x0, x1, x2, x3, x4, y0, y1, y2, y3, y4⟩ := KW.out.1.c
            have R := hidI (And.intro (bel_set5 KW.out.2 (Nat.le_refl _) (.int .i64 0) (.int .i64 0) (.string ⟨#[]⟩) (.slice none 0 0) (.slice none 0 0)) (KW.out.1.set (.int .i64 0) (.int .i64 0) (.string ⟨#[]⟩) (.slice none 0 0) (.slice none 0 0)))
            go_wp2_with fail
            obtain ⟨r1, r3⟩ := R.out
            obtain ⟨z0, z1, z2, z3, z4, -⟩ := r3.c
            refine bodyPost_ret (v := .tuple #[.agg #[.int .i64 0, .int .i64 0, .string ⟨#[]⟩, .slice none 0 0, .slice none 0 0], .int .i64 (-1)]) ?_ rfl ?_
            · simp only [set5] at z0 z1 z2 z3 z4
              simp [results, Tryd.results11, go_sem, z0, z1, z2, z3, z4]
            · refine ⟨r1, ?_⟩
              rw [RS.out]
              exact va_none
    have HP0 : Hid (Lib.hasPrefix (s.drop j) [110, 117, 108, 108] = false) := hidI (by rw [HDR.out]; exact pre_head (by intro e; exact hw0 e))
    have HP1 : Hid (Lib.hasPrefix (s.drop j) [102, 97, 108, 115, 101] = false) := hidI (by rw [HDR.out]; exact pre_head (by intro e; exact hw1 e))
    have HP2 : Hid (Lib.hasPrefix (s.drop j) [116, 114, 117, 101] = false) := hidI (by rw [HDR.out]; exact pre_head (by intro e; exact hw2 e))
    by_cases hn34 : c = 34
    · have hcm := hn34
      clear hw0 hw1 hw2 hn34 hcj
      have E34 : ((c.toNat : Int) == 34) = true := by rw [hcm]; rfl
      have QT : Hid (valR (D + 1) (s.drop i) = (txtR (s.drop (j + 1))).map fun p => (leafV 3 0 p.1, p.2)) := hidI (by
        rw [RQ.out]
        unfold oneQ
        have hh : hd0 (s.drop j) = 34 := by rw [HDR.out, hcm]; rfl
        rw [hh, HDR.out, hcm, quotR_txt]
        simp)
      clear hcm
      go_wp2_with fail
      go_loopg [31] 3 (fun gm iv wi => ∃ m : Nat, m ≤ 3 ∧ gm = 3 - m ∧ iv = .int .i64 m ∧ wi = W0.alloc (.cells #[.string ⟨#[110, 117, 108, 108]⟩, .string ⟨#[102, 97, 108, 115, 101]⟩, .string ⟨#[116, 114, 117, 101]⟩] 9))
      case atStart => exact ⟨0, by omega, rfl, rfl, rfl⟩
      case round =>
        obtain ⟨m, hm, hgm, rfl, rfl⟩ := hrel
        have GM := hidI hgm
        clear hgm
        rcases (show m = 0 ∨ m = 1 ∨ m = 2 ∨ m = 3 by omega) with rfl | rfl | rfl | rfl
        · have hpx := Tryd.strings_HasPrefix ⟨(s.drop j).toArray⟩ ⟨#[110, 117, 108, 108]⟩ (W0.alloc (.cells #[.string ⟨#[110, 117, 108, 108]⟩, .string ⟨#[102, 97, 108, 115, 101]⟩, .string ⟨#[116, 114, 117, 101]⟩] 9))
          simp only [List.toList_toArray] at hpx
          rw [HP0.out] at hpx
          have cw := (words_at W0).1
          go_wp2_with fail
          refine hpx.mono ?_
          rintro e w2 ⟨rfl, hw2⟩
          subst hw2
          clear hpx
          go_wp2_with fail
          go_roundg 2
          case measure => rw [GM.out]; omega
          case rel => exact ⟨1, by omega, rfl, by go_num, rfl⟩
        · have hpx := Tryd.strings_HasPrefix ⟨(s.drop j).toArray⟩ ⟨#[102, 97, 108, 115, 101]⟩ (W0.alloc (.cells #[.string ⟨#[110, 117, 108, 108]⟩, .string ⟨#[102, 97, 108, 115, 101]⟩, .string ⟨#[116, 114, 117, 101]⟩] 9))
          simp only [List.toList_toArray] at hpx
          rw [HP1.out] at hpx
          have cw := (words_at W0).2.1
          go_wp2_with fail
          refine hpx.mono ?_
          rintro e w2 ⟨rfl, hw2⟩
          subst hw2
          clear hpx
          go_wp2_with fail
          go_roundg 1
          case measure => rw [GM.out]; omega
          case rel => exact ⟨2, by omega, rfl, by go_num, rfl⟩
        · have hpx := Tryd.strings_HasPrefix ⟨(s.drop j).toArray⟩ ⟨#[116, 114, 117, 101]⟩ (W0.alloc (.cells #[.string ⟨#[110, 117, 108, 108]⟩, .string ⟨#[102, 97, 108, 115, 101]⟩, .string ⟨#[116, 114, 117, 101]⟩] 9))
          simp only [List.toList_toArray] at hpx
          rw [HP2.out] at hpx
          have cw := (words_at W0).2.2
          go_wp2_with fail
          refine hpx.mono ?_
          rintro e w2 ⟨rfl, hw2⟩
          subst hw2
          clear hpx
          go_wp2_with fail
          go_roundg 0
          case measure => rw [GM.out]; omega
          case rel => exact ⟨3, by omega, rfl, by go_num, rfl⟩
        · have d3 : ¬ ((3 : Nat) : Int) < 3 := by omega
          have KW := hidI (box_words KB.out)
          obtain ⟨x0, x1, x2, x3, x4, y0, y1, y2, y3, y4⟩ := KW.out.1.c
          go_wp2_with fail
          refine (textAt_at _ s j hs hlt).mono ?_
          rintro e w3 ⟨hb3, ht⟩
          have K3 : Hid (BoxIs w3 w.heap.size (.int .i64 0) (.int .i64 0) (.string ⟨#[]⟩) (.slice none 0 0) (.slice none 0 0) ∧ Below w.heap.size w w3) := hidI ⟨box_bel hb3 KW.out.1, bel_trans KW.out.2 hb3⟩
          clear hb3 x0 x1 x2 x3 x4 y0 y1 y2 y3 y4
          obtain ⟨x0, x1, x2, x3, x4, y0, y1, y2, y3, y4⟩ := K3.out.1.c
          cases htx : txtR (s.drop (j + 1)) with
          | none =>
            rw [htx] at ht
            obtain rfl := ht
            unfold str
            have RS : Hid (valR (D + 1) (s.drop i) = none) := hidI (by rw [QT.out, htx]; rfl)
            clear htx
            have R := hidI (And.intro (bel_set5 K3.out.2 (Nat.le_refl _) (.int .i64 3) (.int .i64 0) (.string ⟨#[]⟩) (.slice none 0 0) (.slice none 0 0)) (K3.out.1.set (.int .i64 3) (.int .i64 0) (.string ⟨#[]⟩) (.slice none 0 0) (.slice none 0 0)))
            go_wp2_with fail
            obtain ⟨r1, r3⟩ := R.out
            obtain ⟨z0, z1, z2, z3, z4, -⟩ := r3.c
            refine bodyPost_ret (v := .tuple #[.agg #[.int .i64 3, .int .i64 0, .string ⟨#[]⟩, .slice none 0 0, .slice none 0 0], .int .i64 (-1)]) ?_ rfl ?_
            · simp only [set5] at z0 z1 z2 z3 z4
              simp [results, Tryd.results11, go_sem, z0, z1, z2, z3, z4]
            · refine ⟨r1, ?_⟩
              rw [RS.out]
              exact ⟨3, 0, [], none, none, 0, 0, 0, 0, rfl⟩
          | some q =>
            obtain ⟨tx, r1⟩ := q
            rw [htx] at ht
            obtain ⟨j4, rfl, hj4, hj5⟩ := ht
            simp only at hj5
            unfold str
            have RS : Hid (valR (D + 1) (s.drop i) = some (leafV 3 0 tx, r1)) := hidI (by rw [QT.out, htx]; rfl)
            have htl : Hid (tx.length ≤ 60) := hidI (by
              unfold txtR at htx
              obtain ⟨q, h1, h2⟩ := Option.bind_eq_some_iff.1 htx
              split at h2
              · rename_i h3
                simp only [Option.some.injEq] at h2
                rw [h2] at h3; exact h3
              · cases h2)
            have HJ5 := hidI hj5
            clear htx hj5
            simp only
            have R := hidI (And.intro (bel_set5 K3.out.2 (Nat.le_refl _) (.int .i64 3) (.int .i64 0) (.string ⟨tx.toArray⟩) (.slice none 0 0) (.slice none 0 0)) (K3.out.1.set (.int .i64 3) (.int .i64 0) (.string ⟨tx.toArray⟩) (.slice none 0 0) (.slice none 0 0)))
            go_wp2_with fail
            obtain ⟨r1, r3⟩ := R.out
            obtain ⟨z0, z1, z2, z3, z4, -⟩ := r3.c
            refine bodyPost_ret (v := .tuple #[.agg #[.int .i64 3, .int .i64 0, .string ⟨tx.toArray⟩, .slice none 0 0, .slice none 0 0], .int .i64 (j4 : Int)]) ?_ rfl ?_
            · simp only [set5] at z0 z1 z2 z3 z4
              simp [results, Tryd.results11, go_sem, z0, z1, z2, z3, z4]
            · refine ⟨r1, ?_⟩
              rw [RS.out]
              exact va_leaf hj4 HJ5.out (by unfold I64; omega) (by unfold I64; omega) (by have := htl.out; unfold maxLen; omega)
    by_cases hn91 : c = 91
    · have hcm := hn91
      clear hw0 hw1 hw2 hn34 hn91
      have E91 : ((c.toNat : Int) == 91) = true := by rw [hcm]; rfl
      have E123 : ((c.toNat : Int) == 123) = false := by rw [hcm]; rfl
      have E34 : ((c.toNat : Int) == 34) = false := by rw [hcm]; rfl
      have E45 : ((c.toNat : Int) == 45) = false := by rw [hcm]; rfl
      have G48 : (48 : Int) ≤ (c.toNat : Int) := by rw [hcm]; decide
      have G57 : ¬ (c.toNat : Int) ≤ 57 := by rw [hcm]; decide
      have hsj : s[j] = 91 := by rw [hcj]; exact hcm
      have RS : Hid (valR (D + 1) (s.drop i) = listS (valR D) (s.drop j)) := hidI (by
        rw [RQ.out]
        unfold oneQ
        have hh : hd0 (s.drop j) = 91 := by rw [HDR.out, hcm]; rfl
        rw [hh]
        simp)
      have HSJ := hidI hsj
      clear hcm hsj hcj
      go_wp2_with fail
      go_loopg [31] 3 (fun gm iv wi => ∃ m : Nat, m ≤ 3 ∧ gm = 3 - m ∧ iv = .int .i64 m ∧ wi = W0.alloc (.cells #[.string ⟨#[110, 117, 108, 108]⟩, .string ⟨#[102, 97, 108, 115, 101]⟩, .string ⟨#[116, 114, 117, 101]⟩] 9))
      case atStart => exact ⟨0, by omega, rfl, rfl, rfl⟩
      case round =>
        obtain ⟨m, hm, hgm, rfl, rfl⟩ := hrel
        have GM := hidI hgm
        clear hgm
        rcases (show m = 0 ∨ m = 1 ∨ m = 2 ∨ m = 3 by omega) with rfl | rfl | rfl | rfl
        · have hpx := Tryd.strings_HasPrefix ⟨(s.drop j).toArray⟩ ⟨#[110, 117, 108, 108]⟩ (W0.alloc (.cells #[.string ⟨#[110, 117, 108, 108]⟩, .string ⟨#[102, 97, 108, 115, 101]⟩, .string ⟨#[116, 114, 117, 101]⟩] 9))
          simp only [List.toList_toArray] at hpx
          rw [HP0.out] at hpx
          have cw := (words_at W0).1
          go_wp2_with fail
          refine hpx.mono ?_
          rintro e w2 ⟨rfl, hw2⟩
          subst hw2
          clear hpx
          go_wp2_with fail
          go_roundg 2
          case measure => rw [GM.out]; omega
          case rel => exact ⟨1, by omega, rfl, by go_num, rfl⟩
        · have hpx := Tryd.strings_HasPrefix ⟨(s.drop j).toArray⟩ ⟨#[102, 97, 108, 115, 101]⟩ (W0.alloc (.cells #[.string ⟨#[110, 117, 108, 108]⟩, .string ⟨#[102, 97, 108, 115, 101]⟩, .string ⟨#[116, 114, 117, 101]⟩] 9))
          simp only [List.toList_toArray] at hpx
          rw [HP1.out] at hpx
          have cw := (words_at W0).2.1
          go_wp2_with fail
          refine hpx.mono ?_
          rintro e w2 ⟨rfl, hw2⟩
          subst hw2
          clear hpx
          go_wp2_with fail
          go_roundg 1
          case measure => rw [GM.out]; omega
          case rel => exact ⟨2, by omega, rfl, by go_num, rfl⟩
        · have hpx := Tryd.strings_HasPrefix ⟨(s.drop j).toArray⟩ ⟨#[116, 114, 117, 101]⟩ (W0.alloc (.cells #[.string ⟨#[110, 117, 108, 108]⟩, .string ⟨#[102, 97, 108, 115, 101]⟩, .string ⟨#[116, 114, 117, 101]⟩] 9))
          simp only [List.toList_toArray] at hpx
          rw [HP2.out] at hpx
          have cw := (words_at W0).2.2
          go_wp2_with fail
          refine hpx.mono ?_
          rintro e w2 ⟨rfl, hw2⟩
          subst hw2
          clear hpx
          go_wp2_with fail
          go_roundg 0
          case measure => rw [GM.out]; omega
          case rel => exact ⟨3, by omega, rfl, by go_num, rfl⟩
        · have d3 : ¬ ((3 : Nat) : Int) < 3 := by omega
          have KW := hidI (box_words KB.out)
          obtain ⟨x0, x1, x2, x3, x4, y0, y1, y2, y3, y4⟩ := KW.out.1.c
          go_wp2_with fail
          refine (many_list D IH.out _ s j dep HDD.out (by omega) hs hlt HSJ.out).mono ?_
          rintro e w3 ⟨hb3, ht⟩
          have K3 : Hid (BoxIs w3 w.heap.size (.int .i64 0) (.int .i64 0) (.string ⟨#[]⟩) (.slice none 0 0) (.slice none 0 0) ∧ Below w.heap.size w w3) := hidI ⟨box_bel hb3 KW.out.1, bel_trans KW.out.2 hb3⟩
          have SW : Hid (w.heap.size < (W0.alloc (.cells #[.string ⟨#[110, 117, 108, 108]⟩, .string ⟨#[102, 97, 108, 115, 101]⟩, .string ⟨#[116, 114, 117, 101]⟩] 9)).heap.size) := hidI KW.out.1.lt
          clear hb3 x0 x1 x2 x3 x4 y0 y1 y2 y3 y4
          obtain ⟨x0, x1, x2, x3, x4, y0, y1, y2, y3, y4⟩ := K3.out.1.c
          cases htx : listS (valR D) (s.drop j) with
          | none =>
            rw [htx] at ht RS
            obtain ⟨k9, n9, ss9, a7, a8, l7, c7, l8, c8, rfl⟩ := ht
            clear htx
            have R := hidI (And.intro (bel_set5 K3.out.2 (Nat.le_refl _) (.int .i64 k9) (.int .i64 n9) (.string ⟨ss9.toArray⟩) (.slice a7 l7 c7) (.slice a8 l8 c8)) (K3.out.1.set (.int .i64 k9) (.int .i64 n9) (.string ⟨ss9.toArray⟩) (.slice a7 l7 c7) (.slice a8 l8 c8)))
            go_wp2_with fail
            obtain ⟨r1, r3⟩ := R.out
            obtain ⟨z0, z1, z2, z3, z4, -⟩ := r3.c
            refine bodyPost_ret (v := .tuple #[.agg #[.int .i64 k9, .int .i64 n9, .string ⟨ss9.toArray⟩, .slice a7 l7 c7, .slice a8 l8 c8], .int .i64 (-1)]) ?_ rfl ?_
            · simp only [set5] at z0 z1 z2 z3 z4
              simp [results, Tryd.results11, go_sem, z0, z1, z2, z3, z4]
            · refine ⟨r1, ?_⟩
              rw [RS.out]
              exact ⟨k9, n9, ss9, a7, a8, l7, c7, l8, c8, rfl⟩
          | some q =>
            obtain ⟨x, r1⟩ := q
            rw [htx] at ht RS
            obtain ⟨a7, a8, c7, c8, j4, rfl, hj4, hj5, hx⟩ := ht
            simp only at hj5 hx
            have HJ5 := hidI hj5
            have g1 := set5_gb w3 w.heap.size (.int .i64 x.kind) (.int .i64 x.n) (.string ⟨x.s.toArray⟩) (.slice a7 x.keys.length c7) (.slice a8 x.l.length c8)
            have XX := hidI ((hx.grown g1 (fun k hk e => by have := SW.out; simp at e; omega)).weak (ok' := fun k => w.heap.size ≤ k) (fun k hk => by have := SW.out; omega))
            clear htx hj5 hx g1
            simp only
            have R := hidI (And.intro (bel_set5 K3.out.2 (Nat.le_refl _) (.int .i64 x.kind) (.int .i64 x.n) (.string ⟨x.s.toArray⟩) (.slice a7 x.keys.length c7) (.slice a8 x.l.length c8)) (K3.out.1.set (.int .i64 x.kind) (.int .i64 x.n) (.string ⟨x.s.toArray⟩) (.slice a7 x.keys.length c7) (.slice a8 x.l.length c8)))
            go_wp2_with fail
            obtain ⟨r1, r3⟩ := R.out
            obtain ⟨z0, z1, z2, z3, z4, -⟩ := r3.c
            refine bodyPost_ret (v := .tuple #[.agg #[.int .i64 x.kind, .int .i64 x.n, .string ⟨x.s.toArray⟩, .slice a7 x.keys.length c7, .slice a8 x.l.length c8], .int .i64 (j4 : Int)]) ?_ rfl ?_
            · simp only [set5] at z0 z1 z2 z3 z4
              simp [results, Tryd.results11, go_sem, z0, z1, z2, z3, z4]
            · refine ⟨r1, ?_⟩
              rw [RS.out]
              exact ⟨a7, a8, c7, c8, j4, rfl, hj4, HJ5.out, XX.out⟩
    by_cases hn123 : c = 123
    · have hcm := hn123
      clear hw0 hw1 hw2 hn34 hn91 hn123
      have E91 : ((c.toNat : Int) == 91) = false := by rw [hcm]; rfl
      have E123 : ((c.toNat : Int) == 123) = true := by rw [hcm]; rfl
      have E34 : ((c.toNat : Int) == 34) = false := by rw [hcm]; rfl
      have E45 : ((c.toNat : Int) == 45) = false := by rw [hcm]; rfl
      have G48 : (48 : Int) ≤ (c.toNat : Int) := by rw [hcm]; decide
      have G57 : ¬ (c.toNat : Int) ≤ 57 := by rw [hcm]; decide
      have hsj : s[j] = 123 := by rw [hcj]; exact hcm
      have RS : Hid (valR (D + 1) (s.drop i) = objR (valR D) (s.drop j)) := hidI (by
        rw [RQ.out]
        unfold oneQ
        have hh : hd0 (s.drop j) = 123 := by rw [HDR.out, hcm]; rfl
        rw [hh]
        simp)
      have HSJ := hidI hsj
      clear hcm hsj hcj
      go_wp2_with fail
      go_loopg [31] 3 (fun gm iv wi => ∃ m : Nat, m ≤ 3 ∧ gm = 3 - m ∧ iv = .int .i64 m ∧ wi = W0.alloc (.cells #[.string ⟨#[110, 117, 108, 108]⟩, .string ⟨#[102, 97, 108, 115, 101]⟩, .string ⟨#[116, 114, 117, 101]⟩] 9))
      case atStart => exact ⟨0, by omega, rfl, rfl, rfl⟩
      case round =>
        obtain ⟨m, hm, hgm, rfl, rfl⟩ := hrel
        have GM := hidI hgm
        clear hgm
        rcases (show m = 0 ∨ m = 1 ∨ m = 2 ∨ m = 3 by omega) with rfl | rfl | rfl | rfl
        · have hpx := Tryd.strings_HasPrefix ⟨(s.drop j).toArray⟩ ⟨#[110, 117, 108, 108]⟩ (W0.alloc (.cells #[.string ⟨#[110, 117, 108, 108]⟩, .string ⟨#[102, 97, 108, 115, 101]⟩, .string ⟨#[116, 114, 117, 101]⟩] 9))
          simp only [List.toList_toArray] at hpx
          rw [HP0.out] at hpx
          have cw := (words_at W0).1
          go_wp2_with fail
          refine hpx.mono ?_
          rintro e w2 ⟨rfl, hw2⟩
          subst hw2
          clear hpx
          go_wp2_with fail
          go_roundg 2
          case measure => rw [GM.out]; omega
          case rel => exact ⟨1, by omega, rfl, by go_num, rfl⟩
        · have hpx := Tryd.strings_HasPrefix ⟨(s.drop j).toArray⟩ ⟨#[102, 97, 108, 115, 101]⟩ (W0.alloc (.cells #[.string ⟨#[110, 117, 108, 108]⟩, .string ⟨#[102, 97, 108, 115, 101]⟩, .string ⟨#[116, 114, 117, 101]⟩] 9))
          simp only [List.toList_toArray] at hpx
          rw [HP1.out] at hpx
          have cw := (words_at W0).2.1
          go_wp2_with fail
          refine hpx.mono ?_
          rintro e w2 ⟨rfl, hw2⟩
          subst hw2
          clear hpx
          go_wp2_with fail
          go_roundg 1
          case measure => rw [GM.out]; omega
          case rel => exact ⟨2, by omega, rfl, by go_num, rfl⟩
        · have hpx := Tryd.strings_HasPrefix ⟨(s.drop j).toArray⟩ ⟨#[116, 114, 117, 101]⟩ (W0.alloc (.cells #[.string ⟨#[110, 117, 108, 108]⟩, .string ⟨#[102, 97, 108, 115, 101]⟩, .string ⟨#[116, 114, 117, 101]⟩] 9))
          simp only [List.toList_toArray] at hpx
          rw [HP2.out] at hpx
          have cw := (words_at W0).2.2
          go_wp2_with fail
          refine hpx.mono ?_
          rintro e w2 ⟨rfl, hw2⟩
          subst hw2
          clear hpx
          go_wp2_with fail
          go_roundg 0
          case measure => rw [GM.out]; omega
          case rel => exact ⟨3, by omega, rfl, by go_num, rfl⟩
        · have d3 : ¬ ((3 : Nat) : Int) < 3 := by omega
          have KW := hidI (box_words KB.out)
          obtain ⟨x0, x1, x2, x3, x4, y0, y1, y2, y3, y4⟩ := KW.out.1.c
          go_wp2_with fail
          refine (many_obj D IH.out _ s j dep HDD.out (by omega) hs hlt HSJ.out).mono ?_
          rintro e w3 ⟨hb3, ht⟩
          have K3 : Hid (BoxIs w3 w.heap.size (.int .i64 0) (.int .i64 0) (.string ⟨#[]⟩) (.slice none 0 0) (.slice none 0 0) ∧ Below w.heap.size w w3) := hidI ⟨box_bel hb3 KW.out.1, bel_trans KW.out.2 hb3⟩
          have SW : Hid (w.heap.size < (W0.alloc (.cells #[.string ⟨#[110, 117, 108, 108]⟩, .string ⟨#[102, 97, 108, 115, 101]⟩, .string ⟨#[116, 114, 117, 101]⟩] 9)).heap.size) := hidI KW.out.1.lt
          clear hb3 x0 x1 x2 x3 x4 y0 y1 y2 y3 y4
          obtain ⟨x0, x1, x2, x3, x4, y0, y1, y2, y3, y4⟩ := K3.out.1.c
          cases htx : objR (valR D) (s.drop j) with
          | none =>
            rw [htx] at ht RS
            obtain ⟨k9, n9, ss9, a7, a8, l7, c7, l8, c8, rfl⟩ := ht
            clear htx
            have R := hidI (And.intro (bel_set5 K3.out.2 (Nat.le_refl _) (.int .i64 k9) (.int .i64 n9) (.string ⟨ss9.toArray⟩) (.slice a7 l7 c7) (.slice a8 l8 c8)) (K3.out.1.set (.int .i64 k9) (.int .i64 n9) (.string ⟨ss9.toArray⟩) (.slice a7 l7 c7) (.slice a8 l8 c8)))
            go_wp2_with fail
            obtain ⟨r1, r3⟩ := R.out
            obtain ⟨z0, z1, z2, z3, z4, -⟩ := r3.c
            refine bodyPost_ret (v := .tuple #[.agg #[.int .i64 k9, .int .i64 n9, .string ⟨ss9.toArray⟩, .slice a7 l7 c7, .slice a8 l8 c8], .int .i64 (-1)]) ?_ rfl ?_
            · simp only [set5] at z0 z1 z2 z3 z4
              simp [results, Tryd.results11, go_sem, z0, z1, z2, z3, z4]
            · refine ⟨r1, ?_⟩
              rw [RS.out]
              exact ⟨k9, n9, ss9, a7, a8, l7, c7, l8, c8, rfl⟩
          | some q =>
            obtain ⟨x, r1⟩ := q
            rw [htx] at ht RS
            obtain ⟨a7, a8, c7, c8, j4, rfl, hj4, hj5, hx⟩ := ht
            simp only at hj5 hx
            have HJ5 := hidI hj5
            have g1 := set5_gb w3 w.heap.size (.int .i64 x.kind) (.int .i64 x.n) (.string ⟨x.s.toArray⟩) (.slice a7 x.keys.length c7) (.slice a8 x.l.length c8)
            have XX := hidI ((hx.grown g1 (fun k hk e => by have := SW.out; simp at e; omega)).weak (ok' := fun k => w.heap.size ≤ k) (fun k hk => by have := SW.out; omega))
            clear htx hj5 hx g1
            simp only
            have R := hidI (And.intro (bel_set5 K3.out.2 (Nat.le_refl _) (.int .i64 x.kind) (.int .i64 x.n) (.string ⟨x.s.toArray⟩) (.slice a7 x.keys.length c7) (.slice a8 x.l.length c8)) (K3.out.1.set (.int .i64 x.kind) (.int .i64 x.n) (.string ⟨x.s.toArray⟩) (.slice a7 x.keys.length c7) (.slice a8 x.l.length c8)))
            go_wp2_with fail
            obtain ⟨r1, r3⟩ := R.out
            obtain ⟨z0, z1, z2, z3, z4, -⟩ := r3.c
            refine bodyPost_ret (v := .tuple #[.agg #[.int .i64 x.kind, .int .i64 x.n, .string ⟨x.s.toArray⟩, .slice a7 x.keys.length c7, .slice a8 x.l.length c8], .int .i64 (j4 : Int)]) ?_ rfl ?_
            · simp only [set5] at z0 z1 z2 z3 z4
              simp [results, Tryd.results11, go_sem, z0, z1, z2, z3, z4]
            · refine ⟨r1, ?_⟩
              rw [RS.out]
              exact ⟨a7, a8, c7, c8, j4, rfl, hj4, HJ5.out, XX.out⟩
    cases hnum : isNum c with
    | true =>
      have hh9 : hd0 (s.drop j) = c := by rw [HDR.out]; rfl
      have RN0 : Hid (valR (D + 1) (s.drop i) = (numR (s.drop j)).map fun p => (leafV 2 p.1 [], p.2)) := hidI (by
        rw [RQ.out]
        unfold oneQ
        rw [hh9, if_neg hw0, if_neg hw1, if_neg hw2, if_neg hn34, if_neg hn91, if_neg hn123, if_pos hnum])
      have E34 : ((c.toNat : Int) == 34) = false := by rw [beq_eq_false_iff_ne]; intro e; exact hn34 (UInt8.toNat_inj.1 (by show c.toNat = 34; omega))
      obtain ⟨u, hu⟩ : ∃ u, numU (s.drop j) = u := ⟨_, rfl⟩
      obtain ⟨q, hq⟩ : ∃ q, ((s.drop (j + 1)).takeWhile isDig).length = q := ⟨_, rfl⟩
      have UC : Hid (u = c :: (s.drop (j + 1)).takeWhile isDig) := hidI (by rw [← hu, HDR.out]; rfl)
      have UL : Hid (u.length = q + 1) := hidI (by rw [UC.out, List.length_cons, hq])
      have hqr : q ≤ s.length - (j + 1) := by
        have h9 := (List.takeWhile_sublist (l := s.drop (j + 1)) isDig).length_le
        rw [hq, List.length_drop] at h9
        exact h9
      obtain ⟨KK, hKK⟩ : ∃ KK, j + 1 + q = KK := ⟨_, rfl⟩
      have KL : Hid (KK ≤ s.length) := hidI (by omega)
      have hcutu : (ByteArray.mk s.toArray).extract j KK = ByteArray.mk u.toArray := by
        rw [cut_ba]
        congr 2
        rw [HDR.out, show KK - j = q + 1 by omega, List.take_succ_cons, UC.out]
        congr 1
        obtain ⟨tt, htt⟩ := List.takeWhile_prefix (l := s.drop (j + 1)) isDig
        conv => lhs; rw [← htt]
        rw [← hq]
        exact List.take_left' rfl
      have DG : Hid (∀ K, j + 1 ≤ K → K < KK → ∃ h : K < s.length, isDig s[K] = true) := hidI (by
        intro K h1 h2
        obtain ⟨h3, h4⟩ := tw_dig isDig (s.drop (j + 1)) (K - (j + 1)) (by omega)
        rw [List.length_drop] at h3
        refine ⟨by omega, ?_⟩
        rw [List.getElem_drop] at h4
        have e : j + 1 + (K - (j + 1)) = K := by omega
        simp only [e] at h4
        exact h4)
      have ST : Hid (∀ K, K = KK → ∀ h : K < s.length, isDig s[K] = false) := hidI (by
        intro K hK h
        have h3 := tw_stop isDig (s.drop (j + 1)) (by rw [List.length_drop]; omega)
        rw [List.getElem_drop] at h3
        have e : j + 1 + ((s.drop (j + 1)).takeWhile isDig).length = K := by omega
        simp only [e] at h3
        exact h3)
      have kk1 : (j : Int) ≤ (KK : Int) := by omega
      have kk2 : (KK : Int) ≤ (s.length : Int) := by omega
      have kk3 : (KK : Int) ≤ ((ByteArray.mk s.toArray).size : Int) := by rw [ba_len]; omega
      have hKK2 : j + 1 ≤ KK ∧ q = KK - (j + 1) := by omega
      obtain ⟨hKK3, hKK4⟩ := hKK2
      have HQL := hidI hq
      clear hw0 hw1 hw2 hn34 hn91 hn123 hq hqr
      by_cases h45 : c = 45
      · have E45 : ((c.toNat : Int) == 45) = true := by rw [h45]; rfl
        obtain ⟨ds, hds⟩ : ∃ ds, (s.drop (j + 1)).takeWhile isDig = ds := ⟨_, rfl⟩
        have DE : Hid (ds = (s.drop (j + 1)).takeWhile isDig) := hidI hds.symm
        have TP : Hid (Lib.trimPrefix u [45] = ds) := hidI (by rw [UC.out, h45, ← hds]; rfl)
        have dsl : ds.length ≤ 2000 := by rw [← hds, HQL.out]; have := KL.out; omega
        have DD : Hid (∀ (t : Nat) (h : t < ds.length), isDig ds[t] = true) := hidI (fun t h => by subst hds; exact tw_all isDig _ _ (List.getElem_mem h))
        clear hds
        have NUM0 : Hid (numR (s.drop j) = if (-9007199254740992 ≤ (-(natD ds : Int)) ∧ (-(natD ds : Int)) ≤ 9007199254740992) ∧ Lib.itoa (-(natD ds : Int)) = u then some ((-(natD ds : Int)), s.drop KK) else none) := hidI (by
          have e9 : numN u = (-(natD ds : Int)) := (by rw [UC.out]; unfold numN; rw [if_pos (by show c = 45; exact h45)]; show -(natD ((s.drop (j + 1)).takeWhile isDig) : Int) = -(natD ds : Int); rw [← DE.out])
          unfold numR
          rw [hu, e9, UL.out, List.drop_drop, show j + (q + 1) = KK by omega])
        clear h45 hnum hcj hh9 hu
        go_wp2_with fail
        go_loopg [31] 3 (fun gm iv wi => ∃ m : Nat, m ≤ 3 ∧ gm = 3 - m ∧ iv = .int .i64 m ∧ wi = W0.alloc (.cells #[.string ⟨#[110, 117, 108, 108]⟩, .string ⟨#[102, 97, 108, 115, 101]⟩, .string ⟨#[116, 114, 117, 101]⟩] 9))
        case atStart => exact ⟨0, by omega, rfl, rfl, rfl⟩
        case round =>
          obtain ⟨m, hm, hgm, rfl, rfl⟩ := hrel
          have GM := hidI hgm
          clear hgm
          rcases (show m = 0 ∨ m = 1 ∨ m = 2 ∨ m = 3 by omega) with rfl | rfl | rfl | rfl
          · have hpx := Tryd.strings_HasPrefix ⟨(s.drop j).toArray⟩ ⟨#[110, 117, 108, 108]⟩ (W0.alloc (.cells #[.string ⟨#[110, 117, 108, 108]⟩, .string ⟨#[102, 97, 108, 115, 101]⟩, .string ⟨#[116, 114, 117, 101]⟩] 9))
            simp only [List.toList_toArray] at hpx
            rw [HP0.out] at hpx
            have cw := (words_at W0).1
            go_wp2_with fail
            refine hpx.mono ?_
            rintro e w2 ⟨rfl, hw2⟩
            subst hw2
            clear hpx
            go_wp2_with fail
            go_roundg 2
            case measure => rw [GM.out]; omega
            case rel => exact ⟨1, by omega, rfl, by go_num, rfl⟩
          · have hpx := Tryd.strings_HasPrefix ⟨(s.drop j).toArray⟩ ⟨#[102, 97, 108, 115, 101]⟩ (W0.alloc (.cells #[.string ⟨#[110, 117, 108, 108]⟩, .string ⟨#[102, 97, 108, 115, 101]⟩, .string ⟨#[116, 114, 117, 101]⟩] 9))
            simp only [List.toList_toArray] at hpx
            rw [HP1.out] at hpx
            have cw := (words_at W0).2.1
            go_wp2_with fail
            refine hpx.mono ?_
            rintro e w2 ⟨rfl, hw2⟩
            subst hw2
            clear hpx
            go_wp2_with fail
            go_roundg 1
            case measure => rw [GM.out]; omega
            case rel => exact ⟨2, by omega, rfl, by go_num, rfl⟩
          · have hpx := Tryd.strings_HasPrefix ⟨(s.drop j).toArray⟩ ⟨#[116, 114, 117, 101]⟩ (W0.alloc (.cells #[.string ⟨#[110, 117, 108, 108]⟩, .string ⟨#[102, 97, 108, 115, 101]⟩, .string ⟨#[116, 114, 117, 101]⟩] 9))
            simp only [List.toList_toArray] at hpx
            rw [HP2.out] at hpx
            have cw := (words_at W0).2.2
            go_wp2_with fail
            refine hpx.mono ?_
            rintro e w2 ⟨rfl, hw2⟩
            subst hw2
            clear hpx
            go_wp2_with fail
            go_roundg 0
            case measure => rw [GM.out]; omega
            case rel => exact ⟨3, by omega, rfl, by go_num, rfl⟩
          · have d3 : ¬ ((3 : Nat) : Int) < 3 := by omega
            have KW := hidI (box_words KB.out)
            obtain ⟨x0, x1, x2, x3, x4, y0, y1, y2, y3, y4⟩ := KW.out.1.c
            go_wp2_with fail
            go_loopg [13] q (fun gk kv wi => ∃ KX : Nat, j + 1 ≤ KX ∧ KX ≤ KK ∧ gk = KK - KX ∧ kv = .int .i64 KX ∧ wi = W0.alloc (.cells #[.string ⟨#[110, 117, 108, 108]⟩, .string ⟨#[102, 97, 108, 115, 101]⟩, .string ⟨#[116, 114, 117, 101]⟩] 9))
            case atStart => exact ⟨j + 1, by omega, by omega, by omega, by go_num, rfl⟩
            case round =>
              obtain ⟨KX, hK1, hK2, hgK, rfl, rfl⟩ := hrel
              have GKX := hidI hgK
              clear hgK
              by_cases hKt : KX < KK
              · obtain ⟨hKl, hdg⟩ := DG.out KX hK1 hKt
                have hszK : KX < (ByteArray.mk s.toArray).size := by rw [ba_len]; exact hKl
                have hgetK : (ByteArray.mk s.toArray)[KX] = s[KX] := rfl
                obtain ⟨dd, hdd⟩ : ∃ dd, s[KX] = dd := ⟨_, rfl⟩
                rw [hdd] at hgetK hdg
                have dd256 : (dd.toNat : Int) < 256 := by have := dd.toNat_lt; omega
                have kx1 : (0 : Int) ≤ (KX : Int) := by omega
                have kx2 : (KX : Int) < (s.length : Int) := by omega
                have hd1 : 48 ≤ dd.toNat ∧ dd.toNat ≤ 57 := by simpa [isDig] using hdg
                have gd1 : (48 : Int) ≤ (dd.toNat : Int) := by omega
                have gd2 : (dd.toNat : Int) ≤ 57 := by omega
                clear hdd hdg hd1
                go_wp2_with fail
                go_roundg (KK - (KX + 1))
                case measure => rw [GKX.out]; omega
                case rel => exact ⟨KX + 1, by omega, by omega, rfl, by go_num, rfl⟩
              · have hKe : KX = KK := by omega
                have hKe2 := hKe.symm
                subst hKe2
                go_upto_region 16 with fail
                go_cut [96] (fun cv wc => cv = .bool false ∧ wc = W0.alloc (.cells #[.string ⟨#[110, 117, 108, 108]⟩, .string ⟨#[102, 97, 108, 115, 101]⟩, .string ⟨#[116, 114, 117, 101]⟩] 9))
                case first =>
                  by_cases hKl : KK < s.length
                  · have hnd := ST.out KK rfl hKl
                    have hszK : KK < (ByteArray.mk s.toArray).size := by rw [ba_len]; exact hKl
                    have hgetK : (ByteArray.mk s.toArray)[KK] = s[KK] := rfl
                    obtain ⟨dd, hdd⟩ : ∃ dd, s[KK] = dd := ⟨_, rfl⟩
                    rw [hdd] at hgetK hnd
                    have dd256 : (dd.toNat : Int) < 256 := by have := dd.toNat_lt; omega
                    have kx1 : (0 : Int) ≤ (KK : Int) := by omega
                    have kx2 : (KK : Int) < (s.length : Int) := by omega
                    by_cases dd48 : 48 ≤ dd.toNat
                    · have gd1 : (48 : Int) ≤ (dd.toNat : Int) := by omega
                      have gd2 : ¬ (dd.toNat : Int) ≤ 57 := by
                        intro h9
                        have : isDig dd = true := by simp [isDig, dd48]; omega
                        rw [hnd] at this; cases this
                      clear hnd hdd dd48
                      go_wp2_with fail
                      go_meet
                      case rel => exact ⟨rfl, rfl⟩
                    · have gd1 : ¬ (48 : Int) ≤ (dd.toNat : Int) := by omega
                      clear hnd hdd dd48
                      go_wp2_with fail
                      go_meet
                      case rel => exact ⟨rfl, rfl⟩
                  · have kx2 : ¬ (KK : Int) < (s.length : Int) := by omega
                    go_wp2_with fail
                    go_meet
                    case rel => exact ⟨rfl, rfl⟩
                case rest =>
                  obtain ⟨rfl, rfl⟩ := hcut
                  have hpx := Tryd.strings_TrimPrefix ⟨u.toArray⟩ ⟨#[45]⟩ (W0.alloc (.cells #[.string ⟨#[110, 117, 108, 108]⟩, .string ⟨#[102, 97, 108, 115, 101]⟩, .string ⟨#[116, 114, 117, 101]⟩] 9))
                  simp only [List.toList_toArray] at hpx
                  rw [TP.out] at hpx
                  obtain ⟨cap, W2, hcv, hb1, hb2, hb3, hb4⟩ := bytes_of (W0.alloc (.cells #[.string ⟨#[110, 117, 108, 108]⟩, .string ⟨#[102, 97, 108, 115, 101]⟩, .string ⟨#[116, 114, 117, 101]⟩] 9)) ds (by omega)
                  have HC := hidI hb3
                  have K2 : Hid (BoxIs W2 w.heap.size (.int .i64 0) (.int .i64 0) (.string ⟨#[]⟩) (.slice none 0 0) (.slice none 0 0) ∧ Below w.heap.size w W2) := hidI (by
                    obtain ⟨os, rfl⟩ := hb4
                    have h9 := bel_grow (W0.alloc (.cells #[.string ⟨#[110, 117, 108, 108]⟩, .string ⟨#[102, 97, 108, 115, 101]⟩, .string ⟨#[116, 114, 117, 101]⟩] 9)) 1 os
                    exact ⟨box_bel h9 KW.out.1, bel_trans KW.out.2 h9⟩)
                  clear hb3 hb4 x0 x1 x2 x3 x4 y0 y1 y2 y3 y4
                  go_wp2_with fail
                  refine hpx.mono ?_
                  rintro e w2 ⟨rfl, hw2⟩
                  subst hw2
                  clear hpx
                  go_wp2_with fail
                  clear hcv
                  go_loopg [14, 106] ds.length (fun gm nv iv wi => ∃ t n : Nat, t ≤ ds.length ∧ gm = ds.length - t ∧ iv = .int .i64 t ∧ nv = .int .i64 n ∧ n ≤ 90071992547409929 ∧ Hid (n = natD (ds.take t)) ∧ wi = W2)
                  case atStart => exact ⟨0, 0, by omega, rfl, rfl, rfl, by omega, hidI rfl, rfl⟩
                  case round =>
                    obtain ⟨t, n, ht, hgt, rfl, rfl, hn9, NT, rfl⟩ := hrel
                    have GT := hidI hgt
                    clear hgt
                    obtain ⟨x0, x1, x2, x3, x4, y0, y1, y2, y3, y4⟩ := K2.out.1.c
                    by_cases htl : t < ds.length
                    · have c9 := HC.out t htl
                      rw [alz] at c9
                      obtain ⟨d, hd⟩ : ∃ d, ds[t] = d := ⟨_, rfl⟩
                      have hdig := DD.out t htl
                      have NXT : Hid (natD (ds.take (t + 1)) = 10 * n + (d.toNat - 48)) := hidI (by rw [natD_take ds htl, ← NT.out, hd])
                      rw [hd] at c9 hdig
                      have hd1 : 48 ≤ d.toNat ∧ d.toNat ≤ 57 := by simpa [isDig] using hdig
                      have wd : IntKind.u8.wrap ((d.toNat : Int) - 48) = (d.toNat : Int) - 48 := by
                        simp only [IntKind.wrap, IntKind.signed, IntKind.bits]
                        simp
                        omega
                      have w1' : (0 : Int) ≤ (t : Int) := by omega
                      have w2' : (t : Int) < (ds.length : Int) := by omega
                      clear hd hdig
                      by_cases hbig : 9007199254740992 < n
                      · have g1 : (9007199254740992 : Int) < (n : Int) := by omega
                        have RS : Hid (valR (D + 1) (s.drop i) = none) := hidI (by
                          have h8 := natD_more ds (ds.length - t) t (by omega)
                          rw [show t + (ds.length - t) = ds.length by omega, List.take_length, ← NT.out] at h8
                          rw [RN0.out, NUM0.out, if_neg (fun h9 => by have h7 := h9.1; omega)]; rfl)
                        clear hbig
                        have R := hidI (And.intro (bel_set5 K2.out.2 (Nat.le_refl _) (.int .i64 0) (.int .i64 0) (.string ⟨#[]⟩) (.slice none 0 0) (.slice none 0 0)) (K2.out.1.set (.int .i64 0) (.int .i64 0) (.string ⟨#[]⟩) (.slice none 0 0) (.slice none 0 0)))
                        go_wp2_with fail
                        obtain ⟨r1, r3⟩ := R.out
                        obtain ⟨z0, z1, z2, z3, z4, -⟩ := r3.c
                        refine bodyPost_ret (v := .tuple #[.agg #[.int .i64 0, .int .i64 0, .string ⟨#[]⟩, .slice none 0 0, .slice none 0 0], .int .i64 (-1)]) ?_ rfl ?_
                        · simp only [set5] at z0 z1 z2 z3 z4
                          simp [results, Tryd.results11, go_sem, z0, z1, z2, z3, z4]
                        · refine ⟨r1, ?_⟩
                          rw [RS.out]
                          exact va_none
                      · have g1 : ¬ (9007199254740992 : Int) < (n : Int) := by omega
                        clear hbig x0 x1 x2 x3 x4 y0 y1 y2 y3 y4
                        go_wp2_with fail
                        go_roundg (ds.length - (t + 1))
                        case measure => rw [GT.out]; omega
                        case rel => exact ⟨t + 1, 10 * n + (d.toNat - 48), by omega, rfl, by go_num, (by first | go_num | (congr 1; omega) | (simp; omega)), by omega, hidI NXT.out.symm, rfl⟩
                    · have hte : t = ds.length := by omega
                      have dt : ¬ (t : Int) < (ds.length : Int) := by omega
                      have NF : Hid (n = natD ds) := hidI (by rw [NT.out, hte, List.take_length])
                      have NUMR : Hid (numR (s.drop j) = if (-9007199254740992 ≤ (-(n : Int)) ∧ (-(n : Int)) ≤ 9007199254740992) ∧ Lib.itoa (-(n : Int)) = u then some ((-(n : Int)), s.drop KK) else none) := hidI (by rw [NUM0.out, ← NF.out])
                      clear hte NT NUM0
                      by_cases hrng : n ≤ 9007199254740992
                      · have g1 : ¬ (9007199254740992 : Int) < (-(n : Int)) := by omega
                        have g2 : ¬ (-(n : Int)) < (-9007199254740992 : Int) := by omega
                        go_upto_region 28 with fail
                        by_cases heq : Lib.itoa (-(n : Int)) = u
                        · have HEQ := hidI heq
                          have hne : (Lib.itoa (-(n : Int)) != u) = false := by rw [heq]; simp
                          have heq2 : (Lib.itoa (-(n : Int)) == u) = true := by rw [heq]; simp
                          clear heq
                          refine wp_region_T (fun wS => BoxIs wS w.heap.size (.int .i64 0) (.int .i64 0) (.string ⟨#[]⟩) (.slice none 0 0) (.slice none 0 0) ∧ Below w.heap.size w wS) [] (by kernel_rfl) (by exact ⟨K2.out.1, bel_trans K2.out.2 (bel_drewN _ 1)⟩) (fun hHeld => ?_)
                          refine wpAnyT_take (i := 0) (v := ?_) [] (oi := { dst := some 124, op := Go.Op.move (Go.Operand.tmp 14), type := 3, pos := "low.go:196", after := #[], guard := none }) rfl (by kernel_rfl) (by kernel_rfl) (by kernel_rfl) (by kernel_rfl) (fun _ _ _ h => h) (Or.inl ⟨by rfl, ?_⟩) hHeld ?_
                          rotate_left
                          · intro wS hSw
                            go_simp
                            all_goals with_reducible rfl
                          simp only [Act.put, List.setIfInBounds_toArray, List.set_cons_zero, List.set_cons_succ]
                          refine wpAnyT_take (i := 1) (v := ?_) [] (oi := { dst := some 125, op := Go.Op.binOp Go.BinOp.gtr 3 (Go.Operand.tmp 124) (Go.Operand.const (Go.Value.int Go.IntKind.i64 9007199254740992)) 3, type := 4, pos := "low.go:196", after := #[{ on := 0, ground := Go.Ground.data }], guard := none }) rfl (by kernel_rfl) (by kernel_rfl) (by kernel_rfl) (by kernel_rfl) (fun _ _ _ h => h) (Or.inl ⟨by rfl, ?_⟩) hHeld ?_
                          rotate_left
                          · intro wS hSw
                            go_simp
                            all_goals with_reducible rfl
                          simp only [Act.put, List.setIfInBounds_toArray, List.set_cons_zero, List.set_cons_succ]
                          refine wpAnyT_take (i := 2) (v := ?_) [] (oi := { dst := some 126, op := Go.Op.move (Go.Operand.tmp 125), type := 4, pos := "low.go:196", after := #[{ on := 1, ground := Go.Ground.data }], guard := none }) rfl (by kernel_rfl) (by kernel_rfl) (by kernel_rfl) (by kernel_rfl) (fun _ _ _ h => h) (Or.inl ⟨by rfl, ?_⟩) hHeld ?_
                          rotate_left
                          · intro wS hSw
                            go_simp
                            all_goals with_reducible rfl
                          simp only [Act.put, List.setIfInBounds_toArray, List.set_cons_zero, List.set_cons_succ]
                          refine wpAnyT_take (i := 3) (v := ?_) [] (oi := { dst := some 127, op := Go.Op.move (Go.Operand.tmp 14), type := 3, pos := "low.go:196", after := #[{ on := 2, ground := Go.Ground.guard }], guard := some (2, false) }) rfl (by kernel_rfl) (by kernel_rfl) (by kernel_rfl) (by kernel_rfl) (fun _ _ _ h => h) (Or.inl ⟨by rfl, ?_⟩) hHeld ?_
                          rotate_left
                          · intro wS hSw
                            go_simp
                            all_goals with_reducible rfl
                          simp only [Act.put, List.setIfInBounds_toArray, List.set_cons_zero, List.set_cons_succ]
                          refine wpAnyT_take (i := 4) (v := ?_) [] (oi := { dst := some 128, op := Go.Op.binOp Go.BinOp.lss 3 (Go.Operand.tmp 127) (Go.Operand.const (Go.Value.int Go.IntKind.i64 (-9007199254740992))) 3, type := 4, pos := "low.go:196", after := #[{ on := 3, ground := Go.Ground.data }, { on := 2, ground := Go.Ground.guard }], guard := some (2, false) }) rfl (by kernel_rfl) (by kernel_rfl) (by kernel_rfl) (by kernel_rfl) (fun _ _ _ h => h) (Or.inl ⟨by rfl, ?_⟩) hHeld ?_
                          rotate_left
                          · intro wS hSw
                            go_simp
                            all_goals with_reducible rfl
                          simp only [Act.put, List.setIfInBounds_toArray, List.set_cons_zero, List.set_cons_succ]
                          refine wpAnyT_take (i := 5) (v := ?_) [] (oi := { dst := some 129, op := Go.Op.pick (Go.Operand.tmp 126) (Go.Operand.const (Go.Value.bool true)) (Go.Operand.tmp 128), type := 4, pos := "low.go:196", after := #[{ on := 2, ground := Go.Ground.data }, { on := 4, ground := Go.Ground.data }], guard := none }) rfl (by kernel_rfl) (by kernel_rfl) (by kernel_rfl) (by kernel_rfl) (fun _ _ _ h => h) (Or.inl ⟨by rfl, ?_⟩) hHeld ?_
                          rotate_left
                          · intro wS hSw
                            go_simp
                            all_goals with_reducible rfl
                          simp only [Act.put, List.setIfInBounds_toArray, List.set_cons_zero, List.set_cons_succ]
                          refine wpAnyT_take (i := 6) (v := ?_) [] (oi := { dst := some 130, op := Go.Op.move (Go.Operand.tmp 129), type := 4, pos := "low.go:196", after := #[{ on := 5, ground := Go.Ground.data }, { on := 2, ground := Go.Ground.chain }], guard := none }) rfl (by kernel_rfl) (by kernel_rfl) (by kernel_rfl) (by kernel_rfl) (fun _ _ _ h => h) (Or.inl ⟨by rfl, ?_⟩) hHeld ?_
                          rotate_left
                          · intro wS hSw
                            go_simp
                            all_goals with_reducible rfl
                          simp only [Act.put, List.setIfInBounds_toArray, List.set_cons_zero, List.set_cons_succ]
                          refine wpAnyT_take (i := 7) (v := ?_) [] (oi := { dst := some 131, op := Go.Op.move (Go.Operand.tmp 14), type := 3, pos := "low.go:196", after := #[{ on := 6, ground := Go.Ground.guard }], guard := some (6, false) }) rfl (by kernel_rfl) (by kernel_rfl) (by kernel_rfl) (by kernel_rfl) (fun _ _ _ h => h) (Or.inl ⟨by rfl, ?_⟩) hHeld ?_
                          rotate_left
                          · intro wS hSw
                            go_simp
                            all_goals with_reducible rfl
                          simp only [Act.put, List.setIfInBounds_toArray, List.set_cons_zero, List.set_cons_succ]
                          refine wpAnyT_take (i := 9) (v := ?_) [] (oi := { dst := some 133, op := Go.Op.move (Go.Operand.tmp 0), type := 9, pos := "low.go:196", after := #[{ on := 6, ground := Go.Ground.guard }], guard := some (6, false) }) rfl (by kernel_rfl) (by kernel_rfl) (by kernel_rfl) (by kernel_rfl) (fun _ _ _ h => h) (Or.inl ⟨by rfl, ?_⟩) hHeld ?_
                          rotate_left
                          · intro wS hSw
                            go_simp
                            all_goals with_reducible rfl
                          simp only [Act.put, List.setIfInBounds_toArray, List.set_cons_zero, List.set_cons_succ]
                          refine wpAnyT_take (i := 10) (v := ?_) [] (oi := { dst := some 134, op := Go.Op.move (Go.Operand.tmp 1), type := 3, pos := "low.go:196", after := #[{ on := 6, ground := Go.Ground.guard }], guard := some (6, false) }) rfl (by kernel_rfl) (by kernel_rfl) (by kernel_rfl) (by kernel_rfl) (fun _ _ _ h => h) (Or.inl ⟨by rfl, ?_⟩) hHeld ?_
                          rotate_left
                          · intro wS hSw
                            go_simp
                            all_goals with_reducible rfl
                          simp only [Act.put, List.setIfInBounds_toArray, List.set_cons_zero, List.set_cons_succ]
                          refine wpAnyT_take (i := 11) (v := ?_) [] (oi := { dst := some 135, op := Go.Op.move (Go.Operand.tmp 13), type := 3, pos := "low.go:196", after := #[{ on := 6, ground := Go.Ground.guard }], guard := some (6, false) }) rfl (by kernel_rfl) (by kernel_rfl) (by kernel_rfl) (by kernel_rfl) (fun _ _ _ h => h) (Or.inl ⟨by rfl, ?_⟩) hHeld ?_
                          rotate_left
                          · intro wS hSw
                            go_simp
                            all_goals with_reducible rfl
                          simp only [Act.put, List.setIfInBounds_toArray, List.set_cons_zero, List.set_cons_succ]
                          refine wpAnyT_take (i := 12) (v := ?_) [] (oi := { dst := some 136, op := Go.Op.slice 9 (Go.Operand.tmp 133) (some (Go.Operand.tmp 134)) (some (Go.Operand.tmp 135)) none, type := 9, pos := "low.go:196", after := #[{ on := 9, ground := Go.Ground.data }, { on := 10, ground := Go.Ground.data }, { on := 11, ground := Go.Ground.data }, { on := 6, ground := Go.Ground.guard }], guard := some (6, false) }) rfl (by kernel_rfl) (by kernel_rfl) (by kernel_rfl) (by kernel_rfl) (fun _ _ _ h => h) (Or.inl ⟨by rfl, ?_⟩) hHeld ?_
                          rotate_left
                          · intro wS hSw
                            go_simp
                            all_goals with_reducible rfl
                          simp only [Act.put, List.setIfInBounds_toArray, List.set_cons_zero, List.set_cons_succ]
                          refine wpAnyT_ready (rs := [8]) (by kernel_rfl) (by simp) ?_
                          refine AllReadyT.cons (i := 8) (o := { dst := some 132, op := Go.Op.call { callee := Go.Callee.value (Go.Operand.func 26), args := #[Go.Operand.tmp 131], argTypes := #[3] }, type := 9, pos := "low.go:196", after := #[{ on := 7, ground := Go.Ground.data }, { on := 6, ground := Go.Ground.chain }, { on := 6, ground := Go.Ground.guard }], guard := some (6, false) }) rfl (fun K hK => ?_) ?_
                          · go_simp
                            refine (rdec_is _ (-(n : Int)) (by omega) (by omega)).mono ?_
                            rintro e w8q ⟨rfl, hb8⟩
                            unfold str
                            refine hK.out _ _ (⟨box_bel hb8 hHeld.1, bel_trans hHeld.2 hb8⟩) (fun hHeld2 => ?_)
                            clear hb8
                            clear hK K
                            replace hHeld := hHeld2
                            clear hHeld2
                            try simp only [Act.put, List.setIfInBounds_toArray, List.set_cons_zero, List.set_cons_succ]
                            refine wpAnyT_take (i := 13) (v := ?_) [] (oi := { dst := some 137, op := Go.Op.binOp Go.BinOp.neq 9 (Go.Operand.tmp 132) (Go.Operand.tmp 136) 9, type := 4, pos := "low.go:196", after := #[{ on := 8, ground := Go.Ground.data }, { on := 12, ground := Go.Ground.data }, { on := 6, ground := Go.Ground.guard }], guard := some (6, false) }) rfl (by kernel_rfl) (by kernel_rfl) (by kernel_rfl) (by kernel_rfl) (fun _ _ _ h => h) (Or.inl ⟨by rfl, ?_⟩) hHeld ?_
                            rotate_left
                            · intro wS hSw
                              go_simp
                              all_goals with_reducible rfl
                            simp only [Act.put, List.setIfInBounds_toArray, List.set_cons_zero, List.set_cons_succ]
                            refine wpAnyT_take (i := 14) (v := ?_) [] (oi := { dst := some 138, op := Go.Op.pick (Go.Operand.tmp 130) (Go.Operand.const (Go.Value.bool true)) (Go.Operand.tmp 137), type := 4, pos := "low.go:196", after := #[{ on := 6, ground := Go.Ground.data }, { on := 13, ground := Go.Ground.data }], guard := none }) rfl (by kernel_rfl) (by kernel_rfl) (by kernel_rfl) (by kernel_rfl) (fun _ _ _ h => h) (Or.inl ⟨by rfl, ?_⟩) hHeld ?_
                            rotate_left
                            · intro wS hSw
                              go_simp
                              all_goals with_reducible rfl
                            simp only [Act.put, List.setIfInBounds_toArray, List.set_cons_zero, List.set_cons_succ]
                            refine wpAnyT_done (by kernel_rfl) ?_ _
                            have KD := hidI hHeld
                            obtain ⟨x0, x1, x2, x3, x4, y0, y1, y2, y3, y4⟩ := KD.out.1.c
                            have RS : Hid (valR (D + 1) (s.drop i) = some (leafV 2 (-(n : Int)) [], s.drop KK)) := hidI (by rw [RN0.out, NUMR.out, if_pos ⟨by omega, HEQ.out⟩]; rfl)
                            have R := hidI (And.intro (bel_set5 KD.out.2 (Nat.le_refl _) (.int .i64 2) (.int .i64 (-(n : Int))) (.string ⟨#[]⟩) (.slice none 0 0) (.slice none 0 0)) (KD.out.1.set (.int .i64 2) (.int .i64 (-(n : Int))) (.string ⟨#[]⟩) (.slice none 0 0) (.slice none 0 0)))
                            go_wp2_with fail
                            obtain ⟨r1, r3⟩ := R.out
                            obtain ⟨z0, z1, z2, z3, z4, -⟩ := r3.c
                            refine bodyPost_ret (v := .tuple #[.agg #[.int .i64 2, .int .i64 (-(n : Int)), .string ⟨#[]⟩, .slice none 0 0, .slice none 0 0], .int .i64 (KK : Int)]) ?_ rfl ?_
                            · simp only [set5] at z0 z1 z2 z3 z4
                              simp [results, Tryd.results11, go_sem, z0, z1, z2, z3, z4]
                            · refine ⟨r1, ?_⟩
                              rw [RS.out]
                              exact va_leaf KL.out rfl (by unfold I64; omega) (by unfold I64; omega) (by simp)
                          exact AllReadyT.nil
                        · have HEQ := hidI heq
                          have hne : (Lib.itoa (-(n : Int)) != u) = true := by rw [bne_iff_ne]; exact heq
                          have heq2 : (Lib.itoa (-(n : Int)) == u) = false := by rw [beq_eq_false_iff_ne]; exact heq
                          clear heq
                          refine wp_region_T (fun wS => BoxIs wS w.heap.size (.int .i64 0) (.int .i64 0) (.string ⟨#[]⟩) (.slice none 0 0) (.slice none 0 0) ∧ Below w.heap.size w wS) [] (by kernel_rfl) (by exact ⟨K2.out.1, bel_trans K2.out.2 (bel_drewN _ 1)⟩) (fun hHeld => ?_)
                          refine wpAnyT_take (i := 0) (v := ?_) [] (oi := { dst := some 124, op := Go.Op.move (Go.Operand.tmp 14), type := 3, pos := "low.go:196", after := #[], guard := none }) rfl (by kernel_rfl) (by kernel_rfl) (by kernel_rfl) (by kernel_rfl) (fun _ _ _ h => h) (Or.inl ⟨by rfl, ?_⟩) hHeld ?_
                          rotate_left
                          · intro wS hSw
                            go_simp
                            all_goals with_reducible rfl
                          simp only [Act.put, List.setIfInBounds_toArray, List.set_cons_zero, List.set_cons_succ]
                          refine wpAnyT_take (i := 1) (v := ?_) [] (oi := { dst := some 125, op := Go.Op.binOp Go.BinOp.gtr 3 (Go.Operand.tmp 124) (Go.Operand.const (Go.Value.int Go.IntKind.i64 9007199254740992)) 3, type := 4, pos := "low.go:196", after := #[{ on := 0, ground := Go.Ground.data }], guard := none }) rfl (by kernel_rfl) (by kernel_rfl) (by kernel_rfl) (by kernel_rfl) (fun _ _ _ h => h) (Or.inl ⟨by rfl, ?_⟩) hHeld ?_
                          rotate_left
                          · intro wS hSw
                            go_simp
                            all_goals with_reducible rfl
                          simp only [Act.put, List.setIfInBounds_toArray, List.set_cons_zero, List.set_cons_succ]
                          refine wpAnyT_take (i := 2) (v := ?_) [] (oi := { dst := some 126, op := Go.Op.move (Go.Operand.tmp 125), type := 4, pos := "low.go:196", after := #[{ on := 1, ground := Go.Ground.data }], guard := none }) rfl (by kernel_rfl) (by kernel_rfl) (by kernel_rfl) (by kernel_rfl) (fun _ _ _ h => h) (Or.inl ⟨by rfl, ?_⟩) hHeld ?_
                          rotate_left
                          · intro wS hSw
                            go_simp
                            all_goals with_reducible rfl
                          simp only [Act.put, List.setIfInBounds_toArray, List.set_cons_zero, List.set_cons_succ]
                          refine wpAnyT_take (i := 3) (v := ?_) [] (oi := { dst := some 127, op := Go.Op.move (Go.Operand.tmp 14), type := 3, pos := "low.go:196", after := #[{ on := 2, ground := Go.Ground.guard }], guard := some (2, false) }) rfl (by kernel_rfl) (by kernel_rfl) (by kernel_rfl) (by kernel_rfl) (fun _ _ _ h => h) (Or.inl ⟨by rfl, ?_⟩) hHeld ?_
                          rotate_left
                          · intro wS hSw
                            go_simp
                            all_goals with_reducible rfl
                          simp only [Act.put, List.setIfInBounds_toArray, List.set_cons_zero, List.set_cons_succ]
                          refine wpAnyT_take (i := 4) (v := ?_) [] (oi := { dst := some 128, op := Go.Op.binOp Go.BinOp.lss 3 (Go.Operand.tmp 127) (Go.Operand.const (Go.Value.int Go.IntKind.i64 (-9007199254740992))) 3, type := 4, pos := "low.go:196", after := #[{ on := 3, ground := Go.Ground.data }, { on := 2, ground := Go.Ground.guard }], guard := some (2, false) }) rfl (by kernel_rfl) (by kernel_rfl) (by kernel_rfl) (by kernel_rfl) (fun _ _ _ h => h) (Or.inl ⟨by rfl, ?_⟩) hHeld ?_
                          rotate_left
                          · intro wS hSw
                            go_simp
                            all_goals with_reducible rfl
                          simp only [Act.put, List.setIfInBounds_toArray, List.set_cons_zero, List.set_cons_succ]
                          refine wpAnyT_take (i := 5) (v := ?_) [] (oi := { dst := some 129, op := Go.Op.pick (Go.Operand.tmp 126) (Go.Operand.const (Go.Value.bool true)) (Go.Operand.tmp 128), type := 4, pos := "low.go:196", after := #[{ on := 2, ground := Go.Ground.data }, { on := 4, ground := Go.Ground.data }], guard := none }) rfl (by kernel_rfl) (by kernel_rfl) (by kernel_rfl) (by kernel_rfl) (fun _ _ _ h => h) (Or.inl ⟨by rfl, ?_⟩) hHeld ?_
                          rotate_left
                          · intro wS hSw
                            go_simp
                            all_goals with_reducible rfl
                          simp only [Act.put, List.setIfInBounds_toArray, List.set_cons_zero, List.set_cons_succ]
                          refine wpAnyT_take (i := 6) (v := ?_) [] (oi := { dst := some 130, op := Go.Op.move (Go.Operand.tmp 129), type := 4, pos := "low.go:196", after := #[{ on := 5, ground := Go.Ground.data }, { on := 2, ground := Go.Ground.chain }], guard := none }) rfl (by kernel_rfl) (by kernel_rfl) (by kernel_rfl) (by kernel_rfl) (fun _ _ _ h => h) (Or.inl ⟨by rfl, ?_⟩) hHeld ?_
                          rotate_left
                          · intro wS hSw
                            go_simp
                            all_goals with_reducible rfl
                          simp only [Act.put, List.setIfInBounds_toArray, List.set_cons_zero, List.set_cons_succ]
                          refine wpAnyT_take (i := 7) (v := ?_) [] (oi := { dst := some 131, op := Go.Op.move (Go.Operand.tmp 14), type := 3, pos := "low.go:196", after := #[{ on := 6, ground := Go.Ground.guard }], guard := some (6, false) }) rfl (by kernel_rfl) (by kernel_rfl) (by kernel_rfl) (by kernel_rfl) (fun _ _ _ h => h) (Or.inl ⟨by rfl, ?_⟩) hHeld ?_
                          rotate_left
                          · intro wS hSw
                            go_simp
                            all_goals with_reducible rfl
                          simp only [Act.put, List.setIfInBounds_toArray, List.set_cons_zero, List.set_cons_succ]
                          refine wpAnyT_take (i := 9) (v := ?_) [] (oi := { dst := some 133, op := Go.Op.move (Go.Operand.tmp 0), type := 9, pos := "low.go:196", after := #[{ on := 6, ground := Go.Ground.guard }], guard := some (6, false) }) rfl (by kernel_rfl) (by kernel_rfl) (by kernel_rfl) (by kernel_rfl) (fun _ _ _ h => h) (Or.inl ⟨by rfl, ?_⟩) hHeld ?_
                          rotate_left
                          · intro wS hSw
                            go_simp
                            all_goals with_reducible rfl
                          simp only [Act.put, List.setIfInBounds_toArray, List.set_cons_zero, List.set_cons_succ]
                          refine wpAnyT_take (i := 10) (v := ?_) [] (oi := { dst := some 134, op := Go.Op.move (Go.Operand.tmp 1), type := 3, pos := "low.go:196", after := #[{ on := 6, ground := Go.Ground.guard }], guard := some (6, false) }) rfl (by kernel_rfl) (by kernel_rfl) (by kernel_rfl) (by kernel_rfl) (fun _ _ _ h => h) (Or.inl ⟨by rfl, ?_⟩) hHeld ?_
                          rotate_left
                          · intro wS hSw
                            go_simp
                            all_goals with_reducible rfl
                          simp only [Act.put, List.setIfInBounds_toArray, List.set_cons_zero, List.set_cons_succ]
                          refine wpAnyT_take (i := 11) (v := ?_) [] (oi := { dst := some 135, op := Go.Op.move (Go.Operand.tmp 13), type := 3, pos := "low.go:196", after := #[{ on := 6, ground := Go.Ground.guard }], guard := some (6, false) }) rfl (by kernel_rfl) (by kernel_rfl) (by kernel_rfl) (by kernel_rfl) (fun _ _ _ h => h) (Or.inl ⟨by rfl, ?_⟩) hHeld ?_
                          rotate_left
                          · intro wS hSw
                            go_simp
                            all_goals with_reducible rfl
                          simp only [Act.put, List.setIfInBounds_toArray, List.set_cons_zero, List.set_cons_succ]
                          refine wpAnyT_take (i := 12) (v := ?_) [] (oi := { dst := some 136, op := Go.Op.slice 9 (Go.Operand.tmp 133) (some (Go.Operand.tmp 134)) (some (Go.Operand.tmp 135)) none, type := 9, pos := "low.go:196", after := #[{ on := 9, ground := Go.Ground.data }, { on := 10, ground := Go.Ground.data }, { on := 11, ground := Go.Ground.data }, { on := 6, ground := Go.Ground.guard }], guard := some (6, false) }) rfl (by kernel_rfl) (by kernel_rfl) (by kernel_rfl) (by kernel_rfl) (fun _ _ _ h => h) (Or.inl ⟨by rfl, ?_⟩) hHeld ?_
                          rotate_left
                          · intro wS hSw
                            go_simp
                            all_goals with_reducible rfl
                          simp only [Act.put, List.setIfInBounds_toArray, List.set_cons_zero, List.set_cons_succ]
                          refine wpAnyT_ready (rs := [8]) (by kernel_rfl) (by simp) ?_
                          refine AllReadyT.cons (i := 8) (o := { dst := some 132, op := Go.Op.call { callee := Go.Callee.value (Go.Operand.func 26), args := #[Go.Operand.tmp 131], argTypes := #[3] }, type := 9, pos := "low.go:196", after := #[{ on := 7, ground := Go.Ground.data }, { on := 6, ground := Go.Ground.chain }, { on := 6, ground := Go.Ground.guard }], guard := some (6, false) }) rfl (fun K hK => ?_) ?_
                          · go_simp
                            refine (rdec_is _ (-(n : Int)) (by omega) (by omega)).mono ?_
                            rintro e w8q ⟨rfl, hb8⟩
                            unfold str
                            refine hK.out _ _ (⟨box_bel hb8 hHeld.1, bel_trans hHeld.2 hb8⟩) (fun hHeld2 => ?_)
                            clear hb8
                            clear hK K
                            replace hHeld := hHeld2
                            clear hHeld2
                            try simp only [Act.put, List.setIfInBounds_toArray, List.set_cons_zero, List.set_cons_succ]
                            refine wpAnyT_take (i := 13) (v := ?_) [] (oi := { dst := some 137, op := Go.Op.binOp Go.BinOp.neq 9 (Go.Operand.tmp 132) (Go.Operand.tmp 136) 9, type := 4, pos := "low.go:196", after := #[{ on := 8, ground := Go.Ground.data }, { on := 12, ground := Go.Ground.data }, { on := 6, ground := Go.Ground.guard }], guard := some (6, false) }) rfl (by kernel_rfl) (by kernel_rfl) (by kernel_rfl) (by kernel_rfl) (fun _ _ _ h => h) (Or.inl ⟨by rfl, ?_⟩) hHeld ?_
                            rotate_left
                            · intro wS hSw
                              go_simp
                              all_goals with_reducible rfl
                            simp only [Act.put, List.setIfInBounds_toArray, List.set_cons_zero, List.set_cons_succ]
                            refine wpAnyT_take (i := 14) (v := ?_) [] (oi := { dst := some 138, op := Go.Op.pick (Go.Operand.tmp 130) (Go.Operand.const (Go.Value.bool true)) (Go.Operand.tmp 137), type := 4, pos := "low.go:196", after := #[{ on := 6, ground := Go.Ground.data }, { on := 13, ground := Go.Ground.data }], guard := none }) rfl (by kernel_rfl) (by kernel_rfl) (by kernel_rfl) (by kernel_rfl) (fun _ _ _ h => h) (Or.inl ⟨by rfl, ?_⟩) hHeld ?_
                            rotate_left
                            · intro wS hSw
                              go_simp
                              all_goals with_reducible rfl
                            simp only [Act.put, List.setIfInBounds_toArray, List.set_cons_zero, List.set_cons_succ]
                            refine wpAnyT_done (by kernel_rfl) ?_ _
                            have KD := hidI hHeld
                            obtain ⟨x0, x1, x2, x3, x4, y0, y1, y2, y3, y4⟩ := KD.out.1.c
                            have RS : Hid (valR (D + 1) (s.drop i) = none) := hidI (by rw [RN0.out, NUMR.out, if_neg (fun h9 => HEQ.out h9.2)]; rfl)
                            have R := hidI (And.intro (bel_set5 KD.out.2 (Nat.le_refl _) (.int .i64 0) (.int .i64 0) (.string ⟨#[]⟩) (.slice none 0 0) (.slice none 0 0)) (KD.out.1.set (.int .i64 0) (.int .i64 0) (.string ⟨#[]⟩) (.slice none 0 0) (.slice none 0 0)))
                            go_wp2_with fail
                            obtain ⟨r1, r3⟩ := R.out
                            obtain ⟨z0, z1, z2, z3, z4, -⟩ := r3.c
                            refine bodyPost_ret (v := .tuple #[.agg #[.int .i64 0, .int .i64 0, .string ⟨#[]⟩, .slice none 0 0, .slice none 0 0], .int .i64 (-1)]) ?_ rfl ?_
                            · simp only [set5] at z0 z1 z2 z3 z4
                              simp [results, Tryd.results11, go_sem, z0, z1, z2, z3, z4]
                            · refine ⟨r1, ?_⟩
                              rw [RS.out]
                              exact va_none
                          exact AllReadyT.nil
                      · have g1 : ¬ (9007199254740992 : Int) < -(n : Int) := by omega
                        have g2 : -(n : Int) < (-9007199254740992 : Int) := by omega
                        have RS : Hid (valR (D + 1) (s.drop i) = none) := hidI (by rw [RN0.out, NUMR.out, if_neg (fun h9 => by have := h9.1; omega)]; rfl)
                        go_upto_region 28 with fail
                        go_quiet (fail)
                        have KE : Hid (BoxIs (wr.drewN nq) w.heap.size (.int .i64 0) (.int .i64 0) (.string ⟨#[]⟩) (.slice none 0 0) (.slice none 0 0) ∧ Below w.heap.size w (wr.drewN nq)) := hidI ⟨K2.out.1, bel_trans K2.out.2 (bel_drewN _ nq)⟩
                        clear x0 x1 x2 x3 x4 y0 y1 y2 y3 y4
                        obtain ⟨x0, x1, x2, x3, x4, y0, y1, y2, y3, y4⟩ := KE.out.1.c
                        have R := hidI (And.intro (bel_set5 KE.out.2 (Nat.le_refl _) (.int .i64 0) (.int .i64 0) (.string ⟨#[]⟩) (.slice none 0 0) (.slice none 0 0)) (KE.out.1.set (.int .i64 0) (.int .i64 0) (.string ⟨#[]⟩) (.slice none 0 0) (.slice none 0 0)))
                        go_wp2_with fail
                        obtain ⟨r1, r3⟩ := R.out
                        obtain ⟨z0, z1, z2, z3, z4, -⟩ := r3.c
                        refine bodyPost_ret (v := .tuple #[.agg #[.int .i64 0, .int .i64 0, .string ⟨#[]⟩, .slice none 0 0, .slice none 0 0], .int .i64 (-1)]) ?_ rfl ?_
                        · simp only [set5] at z0 z1 z2 z3 z4
                          simp [results, Tryd.results11, go_sem, z0, z1, z2, z3, z4]
                        · refine ⟨r1, ?_⟩
                          rw [RS.out]
                          exact va_none
      · have E45 : ((c.toNat : Int) == 45) = false := by rw [beq_eq_false_iff_ne]; intro e; exact h45 (UInt8.toNat_inj.1 (by show c.toNat = 45; omega))
        have hc12 : 48 ≤ c.toNat ∧ c.toNat ≤ 57 := by
          have h9 := hnum
          unfold isNum at h9
          have h8 : (c == 45) = false := by rw [beq_eq_false_iff_ne]; exact h45
          rw [h8] at h9
          simpa using h9
        obtain ⟨hc1, hc2⟩ := hc12
        have G48 : (48 : Int) ≤ (c.toNat : Int) := by omega
        have G57 : (c.toNat : Int) ≤ 57 := by omega
        obtain ⟨ds, hds⟩ : ∃ ds, u = ds := ⟨_, rfl⟩
        have DE : Hid (ds = u) := hidI hds.symm
        have TP : Hid (Lib.trimPrefix u [45] = ds) := hidI (by rw [← hds, UC.out]; unfold Lib.trimPrefix; rw [pre_head h45]; rfl)
        have dsl : ds.length ≤ 2001 := by rw [← hds, UL.out]; have := KL.out; omega
        have DD : Hid (∀ (t : Nat) (h : t < ds.length), isDig ds[t] = true) := hidI (fun t h => by
          have h9 : ∀ x ∈ ds, isDig x = true := by
            rw [← hds, UC.out]
            intro x hx
            rcases List.mem_cons.1 hx with rfl | hx
            · simp [isDig, hc1, hc2]
            · exact tw_all isDig _ _ hx
          exact h9 _ (List.getElem_mem h))
        clear hds
        have NUM0 : Hid (numR (s.drop j) = if (-9007199254740992 ≤ (natD ds : Int) ∧ (natD ds : Int) ≤ 9007199254740992) ∧ Lib.itoa (natD ds : Int) = u then some ((natD ds : Int), s.drop KK) else none) := hidI (by
          have e9 : numN u = (natD ds : Int) := (by rw [UC.out]; unfold numN; rw [if_neg (by show ¬ c = 45; exact h45), DE.out, UC.out])
          unfold numR
          rw [hu, e9, UL.out, List.drop_drop, show j + (q + 1) = KK by omega])
        clear h45 hnum hcj hh9 hu
        go_wp2_with fail
        go_loopg [31] 3 (fun gm iv wi => ∃ m : Nat, m ≤ 3 ∧ gm = 3 - m ∧ iv = .int .i64 m ∧ wi = W0.alloc (.cells #[.string ⟨#[110, 117, 108, 108]⟩, .string ⟨#[102, 97, 108, 115, 101]⟩, .string ⟨#[116, 114, 117, 101]⟩] 9))
        case atStart => exact ⟨0, by omega, rfl, rfl, rfl⟩
        case round =>
          obtain ⟨m, hm, hgm, rfl, rfl⟩ := hrel
          have GM := hidI hgm
          clear hgm
          rcases (show m = 0 ∨ m = 1 ∨ m = 2 ∨ m = 3 by omega) with rfl | rfl | rfl | rfl
          · have hpx := Tryd.strings_HasPrefix ⟨(s.drop j).toArray⟩ ⟨#[110, 117, 108, 108]⟩ (W0.alloc (.cells #[.string ⟨#[110, 117, 108, 108]⟩, .string ⟨#[102, 97, 108, 115, 101]⟩, .string ⟨#[116, 114, 117, 101]⟩] 9))
            simp only [List.toList_toArray] at hpx
            rw [HP0.out] at hpx
            have cw := (words_at W0).1
            go_wp2_with fail
            refine hpx.mono ?_
            rintro e w2 ⟨rfl, hw2⟩
            subst hw2
            clear hpx
            go_wp2_with fail
            go_roundg 2
            case measure => rw [GM.out]; omega
            case rel => exact ⟨1, by omega, rfl, by go_num, rfl⟩
          · have hpx := Tryd.strings_HasPrefix ⟨(s.drop j).toArray⟩ ⟨#[102, 97, 108, 115, 101]⟩ (W0.alloc (.cells #[.string ⟨#[110, 117, 108, 108]⟩, .string ⟨#[102, 97, 108, 115, 101]⟩, .string ⟨#[116, 114, 117, 101]⟩] 9))
            simp only [List.toList_toArray] at hpx
            rw [HP1.out] at hpx
            have cw := (words_at W0).2.1
            go_wp2_with fail
            refine hpx.mono ?_
            rintro e w2 ⟨rfl, hw2⟩
            subst hw2
            clear hpx
            go_wp2_with fail
            go_roundg 1
            case measure => rw [GM.out]; omega
            case rel => exact ⟨2, by omega, rfl, by go_num, rfl⟩
          · have hpx := Tryd.strings_HasPrefix ⟨(s.drop j).toArray⟩ ⟨#[116, 114, 117, 101]⟩ (W0.alloc (.cells #[.string ⟨#[110, 117, 108, 108]⟩, .string ⟨#[102, 97, 108, 115, 101]⟩, .string ⟨#[116, 114, 117, 101]⟩] 9))
            simp only [List.toList_toArray] at hpx
            rw [HP2.out] at hpx
            have cw := (words_at W0).2.2
            go_wp2_with fail
            refine hpx.mono ?_
            rintro e w2 ⟨rfl, hw2⟩
            subst hw2
            clear hpx
            go_wp2_with fail
            go_roundg 0
            case measure => rw [GM.out]; omega
            case rel => exact ⟨3, by omega, rfl, by go_num, rfl⟩
          · have d3 : ¬ ((3 : Nat) : Int) < 3 := by omega
            have KW := hidI (box_words KB.out)
            obtain ⟨x0, x1, x2, x3, x4, y0, y1, y2, y3, y4⟩ := KW.out.1.c
            go_wp2_with fail
            go_loopg [13] q (fun gk kv wi => ∃ KX : Nat, j + 1 ≤ KX ∧ KX ≤ KK ∧ gk = KK - KX ∧ kv = .int .i64 KX ∧ wi = W0.alloc (.cells #[.string ⟨#[110, 117, 108, 108]⟩, .string ⟨#[102, 97, 108, 115, 101]⟩, .string ⟨#[116, 114, 117, 101]⟩] 9))
            case atStart => exact ⟨j + 1, by omega, by omega, by omega, by go_num, rfl⟩
            case round =>
              obtain ⟨KX, hK1, hK2, hgK, rfl, rfl⟩ := hrel
              have GKX := hidI hgK
              clear hgK
              by_cases hKt : KX < KK
              · obtain ⟨hKl, hdg⟩ := DG.out KX hK1 hKt
                have hszK : KX < (ByteArray.mk s.toArray).size := by rw [ba_len]; exact hKl
                have hgetK : (ByteArray.mk s.toArray)[KX] = s[KX] := rfl
                obtain ⟨dd, hdd⟩ : ∃ dd, s[KX] = dd := ⟨_, rfl⟩
                rw [hdd] at hgetK hdg
                have dd256 : (dd.toNat : Int) < 256 := by have := dd.toNat_lt; omega
                have kx1 : (0 : Int) ≤ (KX : Int) := by omega
                have kx2 : (KX : Int) < (s.length : Int) := by omega
                have hd1 : 48 ≤ dd.toNat ∧ dd.toNat ≤ 57 := by simpa [isDig] using hdg
                have gd1 : (48 : Int) ≤ (dd.toNat : Int) := by omega
                have gd2 : (dd.toNat : Int) ≤ 57 := by omega
                clear hdd hdg hd1
                go_wp2_with fail
                go_roundg (KK - (KX + 1))
                case measure => rw [GKX.out]; omega
                case rel => exact ⟨KX + 1, by omega, by omega, rfl, by go_num, rfl⟩
              · have hKe : KX = KK := by omega
                have hKe2 := hKe.symm
                subst hKe2
                go_upto_region 16 with fail
                go_cut [96] (fun cv wc => cv = .bool false ∧ wc = W0.alloc (.cells #[.string ⟨#[110, 117, 108, 108]⟩, .string ⟨#[102, 97, 108, 115, 101]⟩, .string ⟨#[116, 114, 117, 101]⟩] 9))
                case first =>
                  by_cases hKl : KK < s.length
                  · have hnd := ST.out KK rfl hKl
                    have hszK : KK < (ByteArray.mk s.toArray).size := by rw [ba_len]; exact hKl
                    have hgetK : (ByteArray.mk s.toArray)[KK] = s[KK] := rfl
                    obtain ⟨dd, hdd⟩ : ∃ dd, s[KK] = dd := ⟨_, rfl⟩
                    rw [hdd] at hgetK hnd
                    have dd256 : (dd.toNat : Int) < 256 := by have := dd.toNat_lt; omega
                    have kx1 : (0 : Int) ≤ (KK : Int) := by omega
                    have kx2 : (KK : Int) < (s.length : Int) := by omega
                    by_cases dd48 : 48 ≤ dd.toNat
                    · have gd1 : (48 : Int) ≤ (dd.toNat : Int) := by omega
                      have gd2 : ¬ (dd.toNat : Int) ≤ 57 := by
                        intro h9
                        have : isDig dd = true := by simp [isDig, dd48]; omega
                        rw [hnd] at this; cases this
                      clear hnd hdd dd48
                      go_wp2_with fail
                      go_meet
                      case rel => exact ⟨rfl, rfl⟩
                    · have gd1 : ¬ (48 : Int) ≤ (dd.toNat : Int) := by omega
                      clear hnd hdd dd48
                      go_wp2_with fail
                      go_meet
                      case rel => exact ⟨rfl, rfl⟩
                  · have kx2 : ¬ (KK : Int) < (s.length : Int) := by omega
                    go_wp2_with fail
                    go_meet
                    case rel => exact ⟨rfl, rfl⟩
                case rest =>
                  obtain ⟨rfl, rfl⟩ := hcut
                  have hpx := Tryd.strings_TrimPrefix ⟨u.toArray⟩ ⟨#[45]⟩ (W0.alloc (.cells #[.string ⟨#[110, 117, 108, 108]⟩, .string ⟨#[102, 97, 108, 115, 101]⟩, .string ⟨#[116, 114, 117, 101]⟩] 9))
                  simp only [List.toList_toArray] at hpx
                  rw [TP.out] at hpx
                  obtain ⟨cap, W2, hcv, hb1, hb2, hb3, hb4⟩ := bytes_of (W0.alloc (.cells #[.string ⟨#[110, 117, 108, 108]⟩, .string ⟨#[102, 97, 108, 115, 101]⟩, .string ⟨#[116, 114, 117, 101]⟩] 9)) ds (by omega)
                  have HC := hidI hb3
                  have K2 : Hid (BoxIs W2 w.heap.size (.int .i64 0) (.int .i64 0) (.string ⟨#[]⟩) (.slice none 0 0) (.slice none 0 0) ∧ Below w.heap.size w W2) := hidI (by
                    obtain ⟨os, rfl⟩ := hb4
                    have h9 := bel_grow (W0.alloc (.cells #[.string ⟨#[110, 117, 108, 108]⟩, .string ⟨#[102, 97, 108, 115, 101]⟩, .string ⟨#[116, 114, 117, 101]⟩] 9)) 1 os
                    exact ⟨box_bel h9 KW.out.1, bel_trans KW.out.2 h9⟩)
                  clear hb3 hb4 x0 x1 x2 x3 x4 y0 y1 y2 y3 y4
                  go_wp2_with fail
                  refine hpx.mono ?_
                  rintro e w2 ⟨rfl, hw2⟩
                  subst hw2
                  clear hpx
                  go_wp2_with fail
                  clear hcv
                  go_loopg [14, 106] ds.length (fun gm nv iv wi => ∃ t n : Nat, t ≤ ds.length ∧ gm = ds.length - t ∧ iv = .int .i64 t ∧ nv = .int .i64 n ∧ n ≤ 90071992547409929 ∧ Hid (n = natD (ds.take t)) ∧ wi = W2)
                  case atStart => exact ⟨0, 0, by omega, rfl, rfl, rfl, by omega, hidI rfl, rfl⟩
                  case round =>
                    obtain ⟨t, n, ht, hgt, rfl, rfl, hn9, NT, rfl⟩ := hrel
                    have GT := hidI hgt
                    clear hgt
                    obtain ⟨x0, x1, x2, x3, x4, y0, y1, y2, y3, y4⟩ := K2.out.1.c
                    by_cases htl : t < ds.length
                    · have c9 := HC.out t htl
                      rw [alz] at c9
                      obtain ⟨d, hd⟩ : ∃ d, ds[t] = d := ⟨_, rfl⟩
                      have hdig := DD.out t htl
                      have NXT : Hid (natD (ds.take (t + 1)) = 10 * n + (d.toNat - 48)) := hidI (by rw [natD_take ds htl, ← NT.out, hd])
                      rw [hd] at c9 hdig
                      have hd1 : 48 ≤ d.toNat ∧ d.toNat ≤ 57 := by simpa [isDig] using hdig
                      have wd : IntKind.u8.wrap ((d.toNat : Int) - 48) = (d.toNat : Int) - 48 := by
                        simp only [IntKind.wrap, IntKind.signed, IntKind.bits]
                        simp
                        omega
                      have w1' : (0 : Int) ≤ (t : Int) := by omega
                      have w2' : (t : Int) < (ds.length : Int) := by omega
                      clear hd hdig
                      by_cases hbig : 9007199254740992 < n
                      · have g1 : (9007199254740992 : Int) < (n : Int) := by omega
                        have RS : Hid (valR (D + 1) (s.drop i) = none) := hidI (by
                          have h8 := natD_more ds (ds.length - t) t (by omega)
                          rw [show t + (ds.length - t) = ds.length by omega, List.take_length, ← NT.out] at h8
                          rw [RN0.out, NUM0.out, if_neg (fun h9 => by have h7 := h9.1; omega)]; rfl)
                        clear hbig
                        have R := hidI (And.intro (bel_set5 K2.out.2 (Nat.le_refl _) (.int .i64 0) (.int .i64 0) (.string ⟨#[]⟩) (.slice none 0 0) (.slice none 0 0)) (K2.out.1.set (.int .i64 0) (.int .i64 0) (.string ⟨#[]⟩) (.slice none 0 0) (.slice none 0 0)))
                        go_wp2_with fail
                        obtain ⟨r1, r3⟩ := R.out
                        obtain ⟨z0, z1, z2, z3, z4, -⟩ := r3.c
                        refine bodyPost_ret (v := .tuple #[.agg #[.int .i64 0, .int .i64 0, .string ⟨#[]⟩, .slice none 0 0, .slice none 0 0], .int .i64 (-1)]) ?_ rfl ?_
                        · simp only [set5] at z0 z1 z2 z3 z4
                          simp [results, Tryd.results11, go_sem, z0, z1, z2, z3, z4]
                        · refine ⟨r1, ?_⟩
                          rw [RS.out]
                          exact va_none
                      · have g1 : ¬ (9007199254740992 : Int) < (n : Int) := by omega
                        clear hbig x0 x1 x2 x3 x4 y0 y1 y2 y3 y4
                        go_wp2_with fail
                        go_roundg (ds.length - (t + 1))
                        case measure => rw [GT.out]; omega
                        case rel => exact ⟨t + 1, 10 * n + (d.toNat - 48), by omega, rfl, by go_num, (by first | go_num | (congr 1; omega) | (simp; omega)), by omega, hidI NXT.out.symm, rfl⟩
                    · have hte : t = ds.length := by omega
                      have dt : ¬ (t : Int) < (ds.length : Int) := by omega
                      have NF : Hid (n = natD ds) := hidI (by rw [NT.out, hte, List.take_length])
                      have NUMR : Hid (numR (s.drop j) = if (-9007199254740992 ≤ (n : Int) ∧ (n : Int) ≤ 9007199254740992) ∧ Lib.itoa (n : Int) = u then some ((n : Int), s.drop KK) else none) := hidI (by rw [NUM0.out, ← NF.out])
                      clear hte NT NUM0
                      by_cases hrng : n ≤ 9007199254740992
                      · have g1 : ¬ (9007199254740992 : Int) < (n : Int) := by omega
                        have g2 : ¬ (n : Int) < (-9007199254740992 : Int) := by omega
                        go_upto_region 28 with fail
                        by_cases heq : Lib.itoa (n : Int) = u
                        · have HEQ := hidI heq
                          have hne : (Lib.itoa (n : Int) != u) = false := by rw [heq]; simp
                          have heq2 : (Lib.itoa (n : Int) == u) = true := by rw [heq]; simp
                          clear heq
                          refine wp_region_T (fun wS => BoxIs wS w.heap.size (.int .i64 0) (.int .i64 0) (.string ⟨#[]⟩) (.slice none 0 0) (.slice none 0 0) ∧ Below w.heap.size w wS) [] (by kernel_rfl) (by exact ⟨K2.out.1, bel_trans K2.out.2 (bel_drewN _ 1)⟩) (fun hHeld => ?_)
                          refine wpAnyT_take (i := 0) (v := ?_) [] (oi := { dst := some 124, op := Go.Op.move (Go.Operand.tmp 14), type := 3, pos := "low.go:196", after := #[], guard := none }) rfl (by kernel_rfl) (by kernel_rfl) (by kernel_rfl) (by kernel_rfl) (fun _ _ _ h => h) (Or.inl ⟨by rfl, ?_⟩) hHeld ?_
                          rotate_left
                          · intro wS hSw
                            go_simp
                            all_goals with_reducible rfl
                          simp only [Act.put, List.setIfInBounds_toArray, List.set_cons_zero, List.set_cons_succ]
                          refine wpAnyT_take (i := 1) (v := ?_) [] (oi := { dst := some 125, op := Go.Op.binOp Go.BinOp.gtr 3 (Go.Operand.tmp 124) (Go.Operand.const (Go.Value.int Go.IntKind.i64 9007199254740992)) 3, type := 4, pos := "low.go:196", after := #[{ on := 0, ground := Go.Ground.data }], guard := none }) rfl (by kernel_rfl) (by kernel_rfl) (by kernel_rfl) (by kernel_rfl) (fun _ _ _ h => h) (Or.inl ⟨by rfl, ?_⟩) hHeld ?_
                          rotate_left
                          · intro wS hSw
                            go_simp
                            all_goals with_reducible rfl
                          simp only [Act.put, List.setIfInBounds_toArray, List.set_cons_zero, List.set_cons_succ]
                          refine wpAnyT_take (i := 2) (v := ?_) [] (oi := { dst := some 126, op := Go.Op.move (Go.Operand.tmp 125), type := 4, pos := "low.go:196", after := #[{ on := 1, ground := Go.Ground.data }], guard := none }) rfl (by kernel_rfl) (by kernel_rfl) (by kernel_rfl) (by kernel_rfl) (fun _ _ _ h => h) (Or.inl ⟨by rfl, ?_⟩) hHeld ?_
                          rotate_left
                          · intro wS hSw
                            go_simp
                            all_goals with_reducible rfl
                          simp only [Act.put, List.setIfInBounds_toArray, List.set_cons_zero, List.set_cons_succ]
                          refine wpAnyT_take (i := 3) (v := ?_) [] (oi := { dst := some 127, op := Go.Op.move (Go.Operand.tmp 14), type := 3, pos := "low.go:196", after := #[{ on := 2, ground := Go.Ground.guard }], guard := some (2, false) }) rfl (by kernel_rfl) (by kernel_rfl) (by kernel_rfl) (by kernel_rfl) (fun _ _ _ h => h) (Or.inl ⟨by rfl, ?_⟩) hHeld ?_
                          rotate_left
                          · intro wS hSw
                            go_simp
                            all_goals with_reducible rfl
                          simp only [Act.put, List.setIfInBounds_toArray, List.set_cons_zero, List.set_cons_succ]
                          refine wpAnyT_take (i := 4) (v := ?_) [] (oi := { dst := some 128, op := Go.Op.binOp Go.BinOp.lss 3 (Go.Operand.tmp 127) (Go.Operand.const (Go.Value.int Go.IntKind.i64 (-9007199254740992))) 3, type := 4, pos := "low.go:196", after := #[{ on := 3, ground := Go.Ground.data }, { on := 2, ground := Go.Ground.guard }], guard := some (2, false) }) rfl (by kernel_rfl) (by kernel_rfl) (by kernel_rfl) (by kernel_rfl) (fun _ _ _ h => h) (Or.inl ⟨by rfl, ?_⟩) hHeld ?_
                          rotate_left
                          · intro wS hSw
                            go_simp
                            all_goals with_reducible rfl
                          simp only [Act.put, List.setIfInBounds_toArray, List.set_cons_zero, List.set_cons_succ]
                          refine wpAnyT_take (i := 5) (v := ?_) [] (oi := { dst := some 129, op := Go.Op.pick (Go.Operand.tmp 126) (Go.Operand.const (Go.Value.bool true)) (Go.Operand.tmp 128), type := 4, pos := "low.go:196", after := #[{ on := 2, ground := Go.Ground.data }, { on := 4, ground := Go.Ground.data }], guard := none }) rfl (by kernel_rfl) (by kernel_rfl) (by kernel_rfl) (by kernel_rfl) (fun _ _ _ h => h) (Or.inl ⟨by rfl, ?_⟩) hHeld ?_
                          rotate_left
                          · intro wS hSw
                            go_simp
                            all_goals with_reducible rfl
                          simp only [Act.put, List.setIfInBounds_toArray, List.set_cons_zero, List.set_cons_succ]
                          refine wpAnyT_take (i := 6) (v := ?_) [] (oi := { dst := some 130, op := Go.Op.move (Go.Operand.tmp 129), type := 4, pos := "low.go:196", after := #[{ on := 5, ground := Go.Ground.data }, { on := 2, ground := Go.Ground.chain }], guard := none }) rfl (by kernel_rfl) (by kernel_rfl) (by kernel_rfl) (by kernel_rfl) (fun _ _ _ h => h) (Or.inl ⟨by rfl, ?_⟩) hHeld ?_
                          rotate_left
                          · intro wS hSw
                            go_simp
                            all_goals with_reducible rfl
                          simp only [Act.put, List.setIfInBounds_toArray, List.set_cons_zero, List.set_cons_succ]
                          refine wpAnyT_take (i := 7) (v := ?_) [] (oi := { dst := some 131, op := Go.Op.move (Go.Operand.tmp 14), type := 3, pos := "low.go:196", after := #[{ on := 6, ground := Go.Ground.guard }], guard := some (6, false) }) rfl (by kernel_rfl) (by kernel_rfl) (by kernel_rfl) (by kernel_rfl) (fun _ _ _ h => h) (Or.inl ⟨by rfl, ?_⟩) hHeld ?_
                          rotate_left
                          · intro wS hSw
                            go_simp
                            all_goals with_reducible rfl
                          simp only [Act.put, List.setIfInBounds_toArray, List.set_cons_zero, List.set_cons_succ]
                          refine wpAnyT_take (i := 9) (v := ?_) [] (oi := { dst := some 133, op := Go.Op.move (Go.Operand.tmp 0), type := 9, pos := "low.go:196", after := #[{ on := 6, ground := Go.Ground.guard }], guard := some (6, false) }) rfl (by kernel_rfl) (by kernel_rfl) (by kernel_rfl) (by kernel_rfl) (fun _ _ _ h => h) (Or.inl ⟨by rfl, ?_⟩) hHeld ?_
                          rotate_left
                          · intro wS hSw
                            go_simp
                            all_goals with_reducible rfl
                          simp only [Act.put, List.setIfInBounds_toArray, List.set_cons_zero, List.set_cons_succ]
                          refine wpAnyT_take (i := 10) (v := ?_) [] (oi := { dst := some 134, op := Go.Op.move (Go.Operand.tmp 1), type := 3, pos := "low.go:196", after := #[{ on := 6, ground := Go.Ground.guard }], guard := some (6, false) }) rfl (by kernel_rfl) (by kernel_rfl) (by kernel_rfl) (by kernel_rfl) (fun _ _ _ h => h) (Or.inl ⟨by rfl, ?_⟩) hHeld ?_
                          rotate_left
                          · intro wS hSw
                            go_simp
                            all_goals with_reducible rfl
                          simp only [Act.put, List.setIfInBounds_toArray, List.set_cons_zero, List.set_cons_succ]
                          refine wpAnyT_take (i := 11) (v := ?_) [] (oi := { dst := some 135, op := Go.Op.move (Go.Operand.tmp 13), type := 3, pos := "low.go:196", after := #[{ on := 6, ground := Go.Ground.guard }], guard := some (6, false) }) rfl (by kernel_rfl) (by kernel_rfl) (by kernel_rfl) (by kernel_rfl) (fun _ _ _ h => h) (Or.inl ⟨by rfl, ?_⟩) hHeld ?_
                          rotate_left
                          · intro wS hSw
                            go_simp
                            all_goals with_reducible rfl
                          simp only [Act.put, List.setIfInBounds_toArray, List.set_cons_zero, List.set_cons_succ]
                          refine wpAnyT_take (i := 12) (v := ?_) [] (oi := { dst := some 136, op := Go.Op.slice 9 (Go.Operand.tmp 133) (some (Go.Operand.tmp 134)) (some (Go.Operand.tmp 135)) none, type := 9, pos := "low.go:196", after := #[{ on := 9, ground := Go.Ground.data }, { on := 10, ground := Go.Ground.data }, { on := 11, ground := Go.Ground.data }, { on := 6, ground := Go.Ground.guard }], guard := some (6, false) }) rfl (by kernel_rfl) (by kernel_rfl) (by kernel_rfl) (by kernel_rfl) (fun _ _ _ h => h) (Or.inl ⟨by rfl, ?_⟩) hHeld ?_
                          rotate_left
                          · intro wS hSw
                            go_simp
                            all_goals with_reducible rfl
                          simp only [Act.put, List.setIfInBounds_toArray, List.set_cons_zero, List.set_cons_succ]
                          refine wpAnyT_ready (rs := [8]) (by kernel_rfl) (by simp) ?_
                          refine AllReadyT.cons (i := 8) (o := { dst := some 132, op := Go.Op.call { callee := Go.Callee.value (Go.Operand.func 26), args := #[Go.Operand.tmp 131], argTypes := #[3] }, type := 9, pos := "low.go:196", after := #[{ on := 7, ground := Go.Ground.data }, { on := 6, ground := Go.Ground.chain }, { on := 6, ground := Go.Ground.guard }], guard := some (6, false) }) rfl (fun K hK => ?_) ?_
                          · go_simp
                            refine (rdec_is _ (n : Int) (by omega) (by omega)).mono ?_
                            rintro e w8q ⟨rfl, hb8⟩
                            unfold str
                            refine hK.out _ _ (⟨box_bel hb8 hHeld.1, bel_trans hHeld.2 hb8⟩) (fun hHeld2 => ?_)
                            clear hb8
                            clear hK K
                            replace hHeld := hHeld2
                            clear hHeld2
                            try simp only [Act.put, List.setIfInBounds_toArray, List.set_cons_zero, List.set_cons_succ]
                            refine wpAnyT_take (i := 13) (v := ?_) [] (oi := { dst := some 137, op := Go.Op.binOp Go.BinOp.neq 9 (Go.Operand.tmp 132) (Go.Operand.tmp 136) 9, type := 4, pos := "low.go:196", after := #[{ on := 8, ground := Go.Ground.data }, { on := 12, ground := Go.Ground.data }, { on := 6, ground := Go.Ground.guard }], guard := some (6, false) }) rfl (by kernel_rfl) (by kernel_rfl) (by kernel_rfl) (by kernel_rfl) (fun _ _ _ h => h) (Or.inl ⟨by rfl, ?_⟩) hHeld ?_
                            rotate_left
                            · intro wS hSw
                              go_simp
                              all_goals with_reducible rfl
                            simp only [Act.put, List.setIfInBounds_toArray, List.set_cons_zero, List.set_cons_succ]
                            refine wpAnyT_take (i := 14) (v := ?_) [] (oi := { dst := some 138, op := Go.Op.pick (Go.Operand.tmp 130) (Go.Operand.const (Go.Value.bool true)) (Go.Operand.tmp 137), type := 4, pos := "low.go:196", after := #[{ on := 6, ground := Go.Ground.data }, { on := 13, ground := Go.Ground.data }], guard := none }) rfl (by kernel_rfl) (by kernel_rfl) (by kernel_rfl) (by kernel_rfl) (fun _ _ _ h => h) (Or.inl ⟨by rfl, ?_⟩) hHeld ?_
                            rotate_left
                            · intro wS hSw
                              go_simp
                              all_goals with_reducible rfl
                            simp only [Act.put, List.setIfInBounds_toArray, List.set_cons_zero, List.set_cons_succ]
                            refine wpAnyT_done (by kernel_rfl) ?_ _
                            have KD := hidI hHeld
                            obtain ⟨x0, x1, x2, x3, x4, y0, y1, y2, y3, y4⟩ := KD.out.1.c
                            have RS : Hid (valR (D + 1) (s.drop i) = some (leafV 2 (n : Int) [], s.drop KK)) := hidI (by rw [RN0.out, NUMR.out, if_pos ⟨by omega, HEQ.out⟩]; rfl)
                            have R := hidI (And.intro (bel_set5 KD.out.2 (Nat.le_refl _) (.int .i64 2) (.int .i64 (n : Int)) (.string ⟨#[]⟩) (.slice none 0 0) (.slice none 0 0)) (KD.out.1.set (.int .i64 2) (.int .i64 (n : Int)) (.string ⟨#[]⟩) (.slice none 0 0) (.slice none 0 0)))
                            go_wp2_with fail
                            obtain ⟨r1, r3⟩ := R.out
                            obtain ⟨z0, z1, z2, z3, z4, -⟩ := r3.c
                            refine bodyPost_ret (v := .tuple #[.agg #[.int .i64 2, .int .i64 (n : Int), .string ⟨#[]⟩, .slice none 0 0, .slice none 0 0], .int .i64 (KK : Int)]) ?_ rfl ?_
                            · simp only [set5] at z0 z1 z2 z3 z4
                              simp [results, Tryd.results11, go_sem, z0, z1, z2, z3, z4]
                            · refine ⟨r1, ?_⟩
                              rw [RS.out]
                              exact va_leaf KL.out rfl (by unfold I64; omega) (by unfold I64; omega) (by simp)
                          exact AllReadyT.nil
                        · have HEQ := hidI heq
                          have hne : (Lib.itoa (n : Int) != u) = true := by rw [bne_iff_ne]; exact heq
                          have heq2 : (Lib.itoa (n : Int) == u) = false := by rw [beq_eq_false_iff_ne]; exact heq
                          clear heq
                          refine wp_region_T (fun wS => BoxIs wS w.heap.size (.int .i64 0) (.int .i64 0) (.string ⟨#[]⟩) (.slice none 0 0) (.slice none 0 0) ∧ Below w.heap.size w wS) [] (by kernel_rfl) (by exact ⟨K2.out.1, bel_trans K2.out.2 (bel_drewN _ 1)⟩) (fun hHeld => ?_)
                          refine wpAnyT_take (i := 0) (v := ?_) [] (oi := { dst := some 124, op := Go.Op.move (Go.Operand.tmp 14), type := 3, pos := "low.go:196", after := #[], guard := none }) rfl (by kernel_rfl) (by kernel_rfl) (by kernel_rfl) (by kernel_rfl) (fun _ _ _ h => h) (Or.inl ⟨by rfl, ?_⟩) hHeld ?_
                          rotate_left
                          · intro wS hSw
                            go_simp
                            all_goals with_reducible rfl
                          simp only [Act.put, List.setIfInBounds_toArray, List.set_cons_zero, List.set_cons_succ]
                          refine wpAnyT_take (i := 1) (v := ?_) [] (oi := { dst := some 125, op := Go.Op.binOp Go.BinOp.gtr 3 (Go.Operand.tmp 124) (Go.Operand.const (Go.Value.int Go.IntKind.i64 9007199254740992)) 3, type := 4, pos := "low.go:196", after := #[{ on := 0, ground := Go.Ground.data }], guard := none }) rfl (by kernel_rfl) (by kernel_rfl) (by kernel_rfl) (by kernel_rfl) (fun _ _ _ h => h) (Or.inl ⟨by rfl, ?_⟩) hHeld ?_
                          rotate_left
                          · intro wS hSw
                            go_simp
                            all_goals with_reducible rfl
                          simp only [Act.put, List.setIfInBounds_toArray, List.set_cons_zero, List.set_cons_succ]
                          refine wpAnyT_take (i := 2) (v := ?_) [] (oi := { dst := some 126, op := Go.Op.move (Go.Operand.tmp 125), type := 4, pos := "low.go:196", after := #[{ on := 1, ground := Go.Ground.data }], guard := none }) rfl (by kernel_rfl) (by kernel_rfl) (by kernel_rfl) (by kernel_rfl) (fun _ _ _ h => h) (Or.inl ⟨by rfl, ?_⟩) hHeld ?_
                          rotate_left
                          · intro wS hSw
                            go_simp
                            all_goals with_reducible rfl
                          simp only [Act.put, List.setIfInBounds_toArray, List.set_cons_zero, List.set_cons_succ]
                          refine wpAnyT_take (i := 3) (v := ?_) [] (oi := { dst := some 127, op := Go.Op.move (Go.Operand.tmp 14), type := 3, pos := "low.go:196", after := #[{ on := 2, ground := Go.Ground.guard }], guard := some (2, false) }) rfl (by kernel_rfl) (by kernel_rfl) (by kernel_rfl) (by kernel_rfl) (fun _ _ _ h => h) (Or.inl ⟨by rfl, ?_⟩) hHeld ?_
                          rotate_left
                          · intro wS hSw
                            go_simp
                            all_goals with_reducible rfl
                          simp only [Act.put, List.setIfInBounds_toArray, List.set_cons_zero, List.set_cons_succ]
                          refine wpAnyT_take (i := 4) (v := ?_) [] (oi := { dst := some 128, op := Go.Op.binOp Go.BinOp.lss 3 (Go.Operand.tmp 127) (Go.Operand.const (Go.Value.int Go.IntKind.i64 (-9007199254740992))) 3, type := 4, pos := "low.go:196", after := #[{ on := 3, ground := Go.Ground.data }, { on := 2, ground := Go.Ground.guard }], guard := some (2, false) }) rfl (by kernel_rfl) (by kernel_rfl) (by kernel_rfl) (by kernel_rfl) (fun _ _ _ h => h) (Or.inl ⟨by rfl, ?_⟩) hHeld ?_
                          rotate_left
                          · intro wS hSw
                            go_simp
                            all_goals with_reducible rfl
                          simp only [Act.put, List.setIfInBounds_toArray, List.set_cons_zero, List.set_cons_succ]
                          refine wpAnyT_take (i := 5) (v := ?_) [] (oi := { dst := some 129, op := Go.Op.pick (Go.Operand.tmp 126) (Go.Operand.const (Go.Value.bool true)) (Go.Operand.tmp 128), type := 4, pos := "low.go:196", after := #[{ on := 2, ground := Go.Ground.data }, { on := 4, ground := Go.Ground.data }], guard := none }) rfl (by kernel_rfl) (by kernel_rfl) (by kernel_rfl) (by kernel_rfl) (fun _ _ _ h => h) (Or.inl ⟨by rfl, ?_⟩) hHeld ?_
                          rotate_left
                          · intro wS hSw
                            go_simp
                            all_goals with_reducible rfl
                          simp only [Act.put, List.setIfInBounds_toArray, List.set_cons_zero, List.set_cons_succ]
                          refine wpAnyT_take (i := 6) (v := ?_) [] (oi := { dst := some 130, op := Go.Op.move (Go.Operand.tmp 129), type := 4, pos := "low.go:196", after := #[{ on := 5, ground := Go.Ground.data }, { on := 2, ground := Go.Ground.chain }], guard := none }) rfl (by kernel_rfl) (by kernel_rfl) (by kernel_rfl) (by kernel_rfl) (fun _ _ _ h => h) (Or.inl ⟨by rfl, ?_⟩) hHeld ?_
                          rotate_left
                          · intro wS hSw
                            go_simp
                            all_goals with_reducible rfl
                          simp only [Act.put, List.setIfInBounds_toArray, List.set_cons_zero, List.set_cons_succ]
                          refine wpAnyT_take (i := 7) (v := ?_) [] (oi := { dst := some 131, op := Go.Op.move (Go.Operand.tmp 14), type := 3, pos := "low.go:196", after := #[{ on := 6, ground := Go.Ground.guard }], guard := some (6, false) }) rfl (by kernel_rfl) (by kernel_rfl) (by kernel_rfl) (by kernel_rfl) (fun _ _ _ h => h) (Or.inl ⟨by rfl, ?_⟩) hHeld ?_
                          rotate_left
                          · intro wS hSw
                            go_simp
                            all_goals with_reducible rfl
                          simp only [Act.put, List.setIfInBounds_toArray, List.set_cons_zero, List.set_cons_succ]
                          refine wpAnyT_take (i := 9) (v := ?_) [] (oi := { dst := some 133, op := Go.Op.move (Go.Operand.tmp 0), type := 9, pos := "low.go:196", after := #[{ on := 6, ground := Go.Ground.guard }], guard := some (6, false) }) rfl (by kernel_rfl) (by kernel_rfl) (by kernel_rfl) (by kernel_rfl) (fun _ _ _ h => h) (Or.inl ⟨by rfl, ?_⟩) hHeld ?_
                          rotate_left
                          · intro wS hSw
                            go_simp
                            all_goals with_reducible rfl
                          simp only [Act.put, List.setIfInBounds_toArray, List.set_cons_zero, List.set_cons_succ]
                          refine wpAnyT_take (i := 10) (v := ?_) [] (oi := { dst := some 134, op := Go.Op.move (Go.Operand.tmp 1), type := 3, pos := "low.go:196", after := #[{ on := 6, ground := Go.Ground.guard }], guard := some (6, false) }) rfl (by kernel_rfl) (by kernel_rfl) (by kernel_rfl) (by kernel_rfl) (fun _ _ _ h => h) (Or.inl ⟨by rfl, ?_⟩) hHeld ?_
                          rotate_left
                          · intro wS hSw
                            go_simp
                            all_goals with_reducible rfl
                          simp only [Act.put, List.setIfInBounds_toArray, List.set_cons_zero, List.set_cons_succ]
                          refine wpAnyT_take (i := 11) (v := ?_) [] (oi := { dst := some 135, op := Go.Op.move (Go.Operand.tmp 13), type := 3, pos := "low.go:196", after := #[{ on := 6, ground := Go.Ground.guard }], guard := some (6, false) }) rfl (by kernel_rfl) (by kernel_rfl) (by kernel_rfl) (by kernel_rfl) (fun _ _ _ h => h) (Or.inl ⟨by rfl, ?_⟩) hHeld ?_
                          rotate_left
                          · intro wS hSw
                            go_simp
                            all_goals with_reducible rfl
                          simp only [Act.put, List.setIfInBounds_toArray, List.set_cons_zero, List.set_cons_succ]
                          refine wpAnyT_take (i := 12) (v := ?_) [] (oi := { dst := some 136, op := Go.Op.slice 9 (Go.Operand.tmp 133) (some (Go.Operand.tmp 134)) (some (Go.Operand.tmp 135)) none, type := 9, pos := "low.go:196", after := #[{ on := 9, ground := Go.Ground.data }, { on := 10, ground := Go.Ground.data }, { on := 11, ground := Go.Ground.data }, { on := 6, ground := Go.Ground.guard }], guard := some (6, false) }) rfl (by kernel_rfl) (by kernel_rfl) (by kernel_rfl) (by kernel_rfl) (fun _ _ _ h => h) (Or.inl ⟨by rfl, ?_⟩) hHeld ?_
                          rotate_left
                          · intro wS hSw
                            go_simp
                            all_goals with_reducible rfl
                          simp only [Act.put, List.setIfInBounds_toArray, List.set_cons_zero, List.set_cons_succ]
                          refine wpAnyT_ready (rs := [8]) (by kernel_rfl) (by simp) ?_
                          refine AllReadyT.cons (i := 8) (o := { dst := some 132, op := Go.Op.call { callee := Go.Callee.value (Go.Operand.func 26), args := #[Go.Operand.tmp 131], argTypes := #[3] }, type := 9, pos := "low.go:196", after := #[{ on := 7, ground := Go.Ground.data }, { on := 6, ground := Go.Ground.chain }, { on := 6, ground := Go.Ground.guard }], guard := some (6, false) }) rfl (fun K hK => ?_) ?_
                          · go_simp
                            refine (rdec_is _ (n : Int) (by omega) (by omega)).mono ?_
                            rintro e w8q ⟨rfl, hb8⟩
                            unfold str
                            refine hK.out _ _ (⟨box_bel hb8 hHeld.1, bel_trans hHeld.2 hb8⟩) (fun hHeld2 => ?_)
                            clear hb8
                            clear hK K
                            replace hHeld := hHeld2
                            clear hHeld2
                            try simp only [Act.put, List.setIfInBounds_toArray, List.set_cons_zero, List.set_cons_succ]
                            refine wpAnyT_take (i := 13) (v := ?_) [] (oi := { dst := some 137, op := Go.Op.binOp Go.BinOp.neq 9 (Go.Operand.tmp 132) (Go.Operand.tmp 136) 9, type := 4, pos := "low.go:196", after := #[{ on := 8, ground := Go.Ground.data }, { on := 12, ground := Go.Ground.data }, { on := 6, ground := Go.Ground.guard }], guard := some (6, false) }) rfl (by kernel_rfl) (by kernel_rfl) (by kernel_rfl) (by kernel_rfl) (fun _ _ _ h => h) (Or.inl ⟨by rfl, ?_⟩) hHeld ?_
                            rotate_left
                            · intro wS hSw
                              go_simp
                              all_goals with_reducible rfl
                            simp only [Act.put, List.setIfInBounds_toArray, List.set_cons_zero, List.set_cons_succ]
                            refine wpAnyT_take (i := 14) (v := ?_) [] (oi := { dst := some 138, op := Go.Op.pick (Go.Operand.tmp 130) (Go.Operand.const (Go.Value.bool true)) (Go.Operand.tmp 137), type := 4, pos := "low.go:196", after := #[{ on := 6, ground := Go.Ground.data }, { on := 13, ground := Go.Ground.data }], guard := none }) rfl (by kernel_rfl) (by kernel_rfl) (by kernel_rfl) (by kernel_rfl) (fun _ _ _ h => h) (Or.inl ⟨by rfl, ?_⟩) hHeld ?_
                            rotate_left
                            · intro wS hSw
                              go_simp
                              all_goals with_reducible rfl
                            simp only [Act.put, List.setIfInBounds_toArray, List.set_cons_zero, List.set_cons_succ]
                            refine wpAnyT_done (by kernel_rfl) ?_ _
                            have KD := hidI hHeld
                            obtain ⟨x0, x1, x2, x3, x4, y0, y1, y2, y3, y4⟩ := KD.out.1.c
                            have RS : Hid (valR (D + 1) (s.drop i) = none) := hidI (by rw [RN0.out, NUMR.out, if_neg (fun h9 => HEQ.out h9.2)]; rfl)
                            have R := hidI (And.intro (bel_set5 KD.out.2 (Nat.le_refl _) (.int .i64 0) (.int .i64 0) (.string ⟨#[]⟩) (.slice none 0 0) (.slice none 0 0)) (KD.out.1.set (.int .i64 0) (.int .i64 0) (.string ⟨#[]⟩) (.slice none 0 0) (.slice none 0 0)))
                            go_wp2_with fail
                            obtain ⟨r1, r3⟩ := R.out
                            obtain ⟨z0, z1, z2, z3, z4, -⟩ := r3.c
                            refine bodyPost_ret (v := .tuple #[.agg #[.int .i64 0, .int .i64 0, .string ⟨#[]⟩, .slice none 0 0, .slice none 0 0], .int .i64 (-1)]) ?_ rfl ?_
                            · simp only [set5] at z0 z1 z2 z3 z4
                              simp [results, Tryd.results11, go_sem, z0, z1, z2, z3, z4]
                            · refine ⟨r1, ?_⟩
                              rw [RS.out]
                              exact va_none
                          exact AllReadyT.nil
                      · have g1 : (9007199254740992 : Int) < (n : Int) := by omega
                        have RS : Hid (valR (D + 1) (s.drop i) = none) := hidI (by rw [RN0.out, NUMR.out, if_neg (fun h9 => by have := h9.1; omega)]; rfl)
                        go_upto_region 28 with fail
                        go_quiet (fail)
                        have KE : Hid (BoxIs (wr.drewN nq) w.heap.size (.int .i64 0) (.int .i64 0) (.string ⟨#[]⟩) (.slice none 0 0) (.slice none 0 0) ∧ Below w.heap.size w (wr.drewN nq)) := hidI ⟨K2.out.1, bel_trans K2.out.2 (bel_drewN _ nq)⟩
                        clear x0 x1 x2 x3 x4 y0 y1 y2 y3 y4
                        obtain ⟨x0, x1, x2, x3, x4, y0, y1, y2, y3, y4⟩ := KE.out.1.c
                        have R := hidI (And.intro (bel_set5 KE.out.2 (Nat.le_refl _) (.int .i64 0) (.int .i64 0) (.string ⟨#[]⟩) (.slice none 0 0) (.slice none 0 0)) (KE.out.1.set (.int .i64 0) (.int .i64 0) (.string ⟨#[]⟩) (.slice none 0 0) (.slice none 0 0)))
                        go_wp2_with fail
                        obtain ⟨r1, r3⟩ := R.out
                        obtain ⟨z0, z1, z2, z3, z4, -⟩ := r3.c
                        refine bodyPost_ret (v := .tuple #[.agg #[.int .i64 0, .int .i64 0, .string ⟨#[]⟩, .slice none 0 0, .slice none 0 0], .int .i64 (-1)]) ?_ rfl ?_
                        · simp only [set5] at z0 z1 z2 z3 z4
                          simp [results, Tryd.results11, go_sem, z0, z1, z2, z3, z4]
                        · refine ⟨r1, ?_⟩
                          rw [RS.out]
                          exact va_none
    | false =>
      have hn45 : c ≠ 45 := by rintro rfl; revert hnum; decide
      have hrg : ¬ (48 ≤ c.toNat ∧ c.toNat ≤ 57) := by
        intro h9
        unfold isNum at hnum
        simp [h9.1, h9.2] at hnum
      by_cases g48 : 48 ≤ c.toNat
      · have G48 : (48 : Int) ≤ (c.toNat : Int) := by omega
        have G57 : ¬ (c.toNat : Int) ≤ 57 := by omega
        clear hrg g48 hcj
        have RS : Hid (valR (D + 1) (s.drop i) = none) := hidI (by
          rw [RQ.out]
          unfold oneQ
          have hh : hd0 (s.drop j) = c := by rw [HDR.out]; rfl
          rw [hh, if_neg hw0, if_neg hw1, if_neg hw2, if_neg hn34, if_neg hn91, if_neg hn123, if_neg (by rw [hnum]; simp)])
        have E34 : ((c.toNat : Int) == 34) = false := by rw [beq_eq_false_iff_ne]; intro e; exact hn34 (UInt8.toNat_inj.1 (by show c.toNat = 34; omega))
        have E45 : ((c.toNat : Int) == 45) = false := by rw [beq_eq_false_iff_ne]; intro e; exact hn45 (UInt8.toNat_inj.1 (by show c.toNat = 45; omega))
        have E91 : ((c.toNat : Int) == 91) = false := by rw [beq_eq_false_iff_ne]; intro e; exact hn91 (UInt8.toNat_inj.1 (by show c.toNat = 91; omega))
        have E123 : ((c.toNat : Int) == 123) = false := by rw [beq_eq_false_iff_ne]; intro e; exact hn123 (UInt8.toNat_inj.1 (by show c.toNat = 123; omega))
        clear hn34 hn45 hn91 hn123 hnum
        go_wp2_with fail
        go_loopg [31] 3 (fun gm iv wi => ∃ m : Nat, m ≤ 3 ∧ gm = 3 - m ∧ iv = .int .i64 m ∧ wi = W0.alloc (.cells #[.string ⟨#[110, 117, 108, 108]⟩, .string ⟨#[102, 97, 108, 115, 101]⟩, .string ⟨#[116, 114, 117, 101]⟩] 9))
        case atStart => exact ⟨0, by omega, rfl, rfl, rfl⟩
        case round =>
          obtain ⟨m, hm, hgm, rfl, rfl⟩ := hrel
          have GM := hidI hgm
          clear hgm
          rcases (show m = 0 ∨ m = 1 ∨ m = 2 ∨ m = 3 by omega) with rfl | rfl | rfl | rfl
          · have hpx := Tryd.strings_HasPrefix ⟨(s.drop j).toArray⟩ ⟨#[110, 117, 108, 108]⟩ (W0.alloc (.cells #[.string ⟨#[110, 117, 108, 108]⟩, .string ⟨#[102, 97, 108, 115, 101]⟩, .string ⟨#[116, 114, 117, 101]⟩] 9))
            simp only [List.toList_toArray] at hpx
            rw [HP0.out] at hpx
            have cw := (words_at W0).1
            go_wp2_with fail
            refine hpx.mono ?_
            rintro e w2 ⟨rfl, hw2⟩
            subst hw2
            clear hpx
            go_wp2_with fail
            go_roundg 2
            case measure => rw [GM.out]; omega
            case rel => exact ⟨1, by omega, rfl, by go_num, rfl⟩
          · have hpx := Tryd.strings_HasPrefix ⟨(s.drop j).toArray⟩ ⟨#[102, 97, 108, 115, 101]⟩ (W0.alloc (.cells #[.string ⟨#[110, 117, 108, 108]⟩, .string ⟨#[102, 97, 108, 115, 101]⟩, .string ⟨#[116, 114, 117, 101]⟩] 9))
            simp only [List.toList_toArray] at hpx
            rw [HP1.out] at hpx
            have cw := (words_at W0).2.1
            go_wp2_with fail
            refine hpx.mono ?_
            rintro e w2 ⟨rfl, hw2⟩
            subst hw2
            clear hpx
            go_wp2_with fail
            go_roundg 1
            case measure => rw [GM.out]; omega
            case rel => exact ⟨2, by omega, rfl, by go_num, rfl⟩
          · have hpx := Tryd.strings_HasPrefix ⟨(s.drop j).toArray⟩ ⟨#[116, 114, 117, 101]⟩ (W0.alloc (.cells #[.string ⟨#[110, 117, 108, 108]⟩, .string ⟨#[102, 97, 108, 115, 101]⟩, .string ⟨#[116, 114, 117, 101]⟩] 9))
            simp only [List.toList_toArray] at hpx
            rw [HP2.out] at hpx
            have cw := (words_at W0).2.2
            go_wp2_with fail
            refine hpx.mono ?_
            rintro e w2 ⟨rfl, hw2⟩
            subst hw2
            clear hpx
            go_wp2_with fail
            go_roundg 0
            case measure => rw [GM.out]; omega
            case rel => exact ⟨3, by omega, rfl, by go_num, rfl⟩
          · have d3 : ¬ ((3 : Nat) : Int) < 3 := by omega
            have KW := hidI (box_words KB.out)
            obtain ⟨x0, x1, x2, x3, x4, y0, y1, y2, y3, y4⟩ := KW.out.1.c
            have R := hidI (And.intro (bel_set5 KW.out.2 (Nat.le_refl _) (.int .i64 0) (.int .i64 0) (.string ⟨#[]⟩) (.slice none 0 0) (.slice none 0 0)) (KW.out.1.set (.int .i64 0) (.int .i64 0) (.string ⟨#[]⟩) (.slice none 0 0) (.slice none 0 0)))
            go_wp2_with fail
            obtain ⟨r1, r3⟩ := R.out
            obtain ⟨z0, z1, z2, z3, z4, -⟩ := r3.c
            refine bodyPost_ret (v := .tuple #[.agg #[.int .i64 0, .int .i64 0, .string ⟨#[]⟩, .slice none 0 0, .slice none 0 0], .int .i64 (-1)]) ?_ rfl ?_
            · simp only [set5] at z0 z1 z2 z3 z4
              simp [results, Tryd.results11, go_sem, z0, z1, z2, z3, z4]
            · refine ⟨r1, ?_⟩
              rw [RS.out]
              exact va_none
      · have G48 : ¬ (48 : Int) ≤ (c.toNat : Int) := by omega
        clear hrg g48 hcj
        have RS : Hid (valR (D + 1) (s.drop i) = none) := hidI (by
          rw [RQ.out]
          unfold oneQ
          have hh : hd0 (s.drop j) = c := by rw [HDR.out]; rfl
          rw [hh, if_neg hw0, if_neg hw1, if_neg hw2, if_neg hn34, if_neg hn91, if_neg hn123, if_neg (by rw [hnum]; simp)])
        have E34 : ((c.toNat : Int) == 34) = false := by rw [beq_eq_false_iff_ne]; intro e; exact hn34 (UInt8.toNat_inj.1 (by show c.toNat = 34; omega))
        have E45 : ((c.toNat : Int) == 45) = false := by rw [beq_eq_false_iff_ne]; intro e; exact hn45 (UInt8.toNat_inj.1 (by show c.toNat = 45; omega))
        have E91 : ((c.toNat : Int) == 91) = false := by rw [beq_eq_false_iff_ne]; intro e; exact hn91 (UInt8.toNat_inj.1 (by show c.toNat = 91; omega))
        have E123 : ((c.toNat : Int) == 123) = false := by rw [beq_eq_false_iff_ne]; intro e; exact hn123 (UInt8.toNat_inj.1 (by show c.toNat = 123; omega))
        clear hn34 hn45 hn91 hn123 hnum
        go_wp2_with fail
        go_loopg [31] 3 (fun gm iv wi => ∃ m : Nat, m ≤ 3 ∧ gm = 3 - m ∧ iv = .int .i64 m ∧ wi = W0.alloc (.cells #[.string ⟨#[110, 117, 108, 108]⟩, .string ⟨#[102, 97, 108, 115, 101]⟩, .string ⟨#[116, 114, 117, 101]⟩] 9))
        case atStart => exact ⟨0, by omega, rfl, rfl, rfl⟩
        case round =>
          obtain ⟨m, hm, hgm, rfl, rfl⟩ := hrel
          have GM := hidI hgm
          clear hgm
          rcases (show m = 0 ∨ m = 1 ∨ m = 2 ∨ m = 3 by omega) with rfl | rfl | rfl | rfl
          · have hpx := Tryd.strings_HasPrefix ⟨(s.drop j).toArray⟩ ⟨#[110, 117, 108, 108]⟩ (W0.alloc (.cells #[.string ⟨#[110, 117, 108, 108]⟩, .string ⟨#[102, 97, 108, 115, 101]⟩, .string ⟨#[116, 114, 117, 101]⟩] 9))
            simp only [List.toList_toArray] at hpx
            rw [HP0.out] at hpx
            have cw := (words_at W0).1
            go_wp2_with fail
            refine hpx.mono ?_
            rintro e w2 ⟨rfl, hw2⟩
            subst hw2
            clear hpx
            go_wp2_with fail
            go_roundg 2
            case measure => rw [GM.out]; omega
            case rel => exact ⟨1, by omega, rfl, by go_num, rfl⟩
          · have hpx := Tryd.strings_HasPrefix ⟨(s.drop j).toArray⟩ ⟨#[102, 97, 108, 115, 101]⟩ (W0.alloc (.cells #[.string ⟨#[110, 117, 108, 108]⟩, .string ⟨#[102, 97, 108, 115, 101]⟩, .string ⟨#[116, 114, 117, 101]⟩] 9))
            simp only [List.toList_toArray] at hpx
            rw [HP1.out] at hpx
            have cw := (words_at W0).2.1
            go_wp2_with fail
            refine hpx.mono ?_
            rintro e w2 ⟨rfl, hw2⟩
            subst hw2
            clear hpx
            go_wp2_with fail
            go_roundg 1
            case measure => rw [GM.out]; omega
            case rel => exact ⟨2, by omega, rfl, by go_num, rfl⟩
          · have hpx := Tryd.strings_HasPrefix ⟨(s.drop j).toArray⟩ ⟨#[116, 114, 117, 101]⟩ (W0.alloc (.cells #[.string ⟨#[110, 117, 108, 108]⟩, .string ⟨#[102, 97, 108, 115, 101]⟩, .string ⟨#[116, 114, 117, 101]⟩] 9))
            simp only [List.toList_toArray] at hpx
            rw [HP2.out] at hpx
            have cw := (words_at W0).2.2
            go_wp2_with fail
            refine hpx.mono ?_
            rintro e w2 ⟨rfl, hw2⟩
            subst hw2
            clear hpx
            go_wp2_with fail
            go_roundg 0
            case measure => rw [GM.out]; omega
            case rel => exact ⟨3, by omega, rfl, by go_num, rfl⟩
          · have d3 : ¬ ((3 : Nat) : Int) < 3 := by omega
            have KW := hidI (box_words KB.out)
            obtain ⟨x0, x1, x2, x3, x4, y0, y1, y2, y3, y4⟩ := KW.out.1.c
            have R := hidI (And.intro (bel_set5 KW.out.2 (Nat.le_refl _) (.int .i64 0) (.int .i64 0) (.string ⟨#[]⟩) (.slice none 0 0) (.slice none 0 0)) (KW.out.1.set (.int .i64 0) (.int .i64 0) (.string ⟨#[]⟩) (.slice none 0 0) (.slice none 0 0)))
            go_wp2_with fail
            obtain ⟨r1, r3⟩ := R.out
            obtain ⟨z0, z1, z2, z3, z4, -⟩ := r3.c
            refine bodyPost_ret (v := .tuple #[.agg #[.int .i64 0, .int .i64 0, .string ⟨#[]⟩, .slice none 0 0, .slice none 0 0], .int .i64 (-1)]) ?_ rfl ?_
            · simp only [set5] at z0 z1 z2 z3 z4
              simp [results, Tryd.results11, go_sem, z0, z1, z2, z3, z4]
            · refine ⟨r1, ?_⟩
              rw [RS.out]
              exact va_none
  · have v3 : (s.length : Int) ≤ (j : Int) := by omega
    have RS : Hid (valR (D + 1) (s.drop i) = none) := hidI (by rw [RQ.out, List.drop_eq_nil_of_le (by omega)]; rfl)
    obtain ⟨x0, x1, x2, x3, x4, y0, y1, y2, y3, y4⟩ := KB.out.1.c
    have R := hidI (And.intro (bel_set5 KB.out.2 (Nat.le_refl _) (.int .i64 0) (.int .i64 0) (.string ⟨#[]⟩) (.slice none 0 0) (.slice none 0 0)) (KB.out.1.set (.int .i64 0) (.int .i64 0) (.string ⟨#[]⟩) (.slice none 0 0) (.slice none 0 0)))
    go_wp2_with fail
    obtain ⟨r1, r3⟩ := R.out
    obtain ⟨z0, z1, z2, z3, z4, -⟩ := r3.c
    refine bodyPost_ret (v := .tuple #[.agg #[.int .i64 0, .int .i64 0, .string ⟨#[]⟩, .slice none 0 0, .slice none 0 0], .int .i64 (-1)]) ?_ rfl ?_
    · simp only [set5] at z0 z1 z2 z3 z4
      simp [results, Tryd.results11, go_sem, z0, z1, z2, z3, z4]
    · refine ⟨r1, ?_⟩
      rw [RS.out]
      exact va_none
end Go.Proofs.YtkboplcffailoaaDoor

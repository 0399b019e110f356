/- Whatever it is handed, JsonPrints answers true and leaves all as it was.
   Its conditions: what it is handed is of bulk at most 1048576 (values and letters); the listed package-level variables hold what the program's text lays (the card ties them, over a pruned copy of the project). -/
import Derived.Deep.RegionHeld3
import Derived.Test.YtkboplcffailoaaGreatDoorCards
import Derived.Test.YtkboplcffailoaaGreatDoorTie
import Derived.Test.YtkboplcffailoaaGreatDoorKg
import Derived.Test.YtkboplcffailoaaGreatDoorGPa
import Derived.WalkKit
import Derived.ProofKit
import Derived.OpenShut
import Derived.ShutString
import Derived.Deep.DeepHandedRow
import Derived.Deep.DeepWitnessRowRef
import Derived.Lib.LaidTab
import Derived.Stop.LaidErr
import Derived.SevenTiedAt
import Derived.SizedLaws
import Derived.Test.YtkboplcffailoaaGreatDoorGQf
import Derived.Test.YtkboplcffailoaaGreatDoorGAf
import Derived.Test.YtkboplcffailoaaGreatDoorAc
import Derived.Test.YtkboplcffailoaaGreatDoorFz
import Derived.Test.YtkboplcffailoaaGreatDoorFs
import Derived.Test.YtkboplcffailoaaGreatDoorKd
import Derived.Test.YtkboplcffailoaaGreatDoorKi
/- A region that draws its order, and at its end writes the very cells that it read: loads may be taken first where whatever writes waits for them. -/
set_option linter.unusedSimpArgs false
set_option linter.unusedVariables false
namespace Go.Proofs.YtkboplcffailoaaGreatDoor
open Go

section
variable {P : Program} {ops : Array Oper} {Q : Exit → Act → World → Prop} {md : Region.Mode} {S : World → Prop} {T : List Nat}

def untilB (T : List Nat) (listed : Array Bool) : Bool := T.all fun t => listed.getD t true == false
/- Whatever order is picked, and S holds behind each operation while none of T has come up. -/
def wpAnyT (P : Program) (md : Region.Mode) (ops : Array Oper) (Q : Exit → Act → World → Prop) (S : World → Prop) (T : List Nat) : Nat → Array Bool → Act → World → Prop
  | 0, listed, a, w => Region.ready md ops listed = [] ∧ Q .normal a w
  | fuel + 1, listed, a, w =>
    (Region.ready md ops listed = [] → Q .normal a w) ∧
    ∀ i ∈ Region.ready md ops listed, wpOp P ops Q i (fun a' w' => (untilB T (listed.setIfInBounds i true) = true → S w') ∧ wpAnyT P md ops Q S T fuel (listed.setIfInBounds i true) a' w') a w
theorem wpAny_of_T : ∀ (fuel : Nat) (listed : Array Bool) (a : Act) (w : World), wpAnyT P md ops Q S T fuel listed a w → wpAny P md ops Q fuel listed a w
  | 0, _, _, _, h => h
  | fuel + 1, _, _, _, h => ⟨h.1, fun i hi => wpOp_mono (fun a' w' h' => wpAny_of_T fuel _ a' w' h'.2) (h.2 i hi)⟩
theorem wpAnyT_of_any : ∀ (fuel : Nat) (listed : Array Bool) (a : Act) (w : World), untilB T listed = false → wpAny P md ops Q fuel listed a w → wpAnyT P md ops Q S T fuel listed a w
  | 0, _, _, _, _, h => h
  | fuel + 1, listed, _, _, hu, h => by
    refine ⟨h.1, fun i hi => wpOp_mono (fun a' w' h' => ?_) (h.2 i hi)⟩
    have hu' : untilB T (listed.setIfInBounds i true) = false := by
      unfold untilB at hu ⊢
      rw [List.all_eq_false] at hu ⊢
      obtain ⟨t, ht, h0⟩ := hu
      refine ⟨t, ht, ?_⟩
      by_cases e : i = t
      · subst e
        by_cases hs : i < listed.size
        · simp [Array.getD, hs]
        · simp [Array.getD, hs]
      · rw [getD_set_ne true e]; exact h0
    exact ⟨fun h => absurd h (by rw [hu']; simp), wpAnyT_of_any fuel _ a' w' hu' h'⟩
/- All of D wait for number i. -/
def behindB (md : Region.Mode) (ops : Array Oper) (listed : Array Bool) (i : Nat) (T D : List Nat) : Bool :=
  (D.all fun d => (match ops[d]? with | some o => o.after.any fun e => Region.binds md e && (e.on == i || D.contains e.on) | none => false) && listed.getD d true == false) && T.all fun t => D.contains t
theorem behind_not {listed : Array Bool} {i : Nat} {D : List Nat} (hD : ∀ d ∈ D, (∃ o, ops[d]? = some o ∧ ∃ e ∈ o.after, Region.binds md e = true ∧ (e.on = i ∨ e.on ∈ D)) ∧ listed.getD d true = false) (hi : listed.getD i true = false) {j : Nat} (hj : j ∈ Region.ready md ops listed) : j ∉ D := by
  intro hjD
  obtain ⟨⟨o, ho, e, he, hb, hon⟩, -⟩ := hD j hjD
  obtain ⟨-, oj, hoj, hall⟩ := mem_ready.1 hj
  rw [ho] at hoj
  cases hoj
  have h1 := hall e he hb
  have h0 : listed.getD e.on true = false := by
    rcases hon with h | h
    · rw [h]; exact hi
    · exact (hD _ h).2
  rcases Nat.lt_or_ge e.on listed.size with h' | h'
  · simp [h'] at h0 h1; rw [h0] at h1; cases h1
  · simp [Array.getElem?_eq_none h'] at h1
theorem until_of {listed : Array Bool} {i : Nat} {T D : List Nat} (hT : ∀ t ∈ T, t ∈ D) (hD : ∀ d ∈ D, listed.getD d true = false) (hi : i ∉ D) : untilB T (listed.setIfInBounds i true) = true := by
  unfold untilB
  rw [List.all_eq_true]
  intro t ht
  have : i ≠ t := fun e => hi (e ▸ hT t ht)
  rw [getD_set_ne true this, hD t (hT t ht)]; rfl
theorem wpAnyT_first {i : Nat} {oi : Oper} {v : Value} {D : List Nat} (hi : ops[i]? = some oi) (hsel : ∀ (j : Nat) (o : Oper) cs b, ops[j]? = some o → o.op ≠ .select cs b)
    (hQ : ∀ c a w, Q (.panic c) (a.put oi.dst v) w → Q (.panic c) a w) (hTD : ∀ t ∈ T, t ∈ D) :
    ∀ (fuel : Nat) (listed : Array Bool) (a : Act) (w : World),
      (∀ j oj, ops[j]? = some oj → j ≠ i → listed.getD j true = false → (∀ e ∈ oj.after, Region.binds md e = true → e.on ≠ i) → oi.apart ops oj = true) →
      (∀ d ∈ D, (∃ o, ops[d]? = some o ∧ ∃ e ∈ o.after, Region.binds md e = true ∧ (e.on = i ∨ e.on ∈ D)) ∧ listed.getD d true = false) →
      i ∈ Region.ready md ops listed → YieldsIf P ops S oi v a → S w →
      wpAnyT P md ops Q S T fuel (listed.setIfInBounds i true) (a.put oi.dst v) w → wpAnyT P md ops Q S T (fuel + 1) listed a w := by
  intro fuel
  induction fuel with
  | zero =>
    intro listed a w _ hD hr hy hS H
    refine ⟨fun h => (by rw [h] at hr; cases hr), fun j hj => ?_⟩
    by_cases hji : j = i
    · subst hji; exact hy.wpOp hi hS ⟨fun _ => hS, H⟩
    · have := ready_mono hj hji
      rw [H.1] at this
      cases this
  | succ fuel ih =>
    intro listed a w hfree hD hr hy hS H
    have hi0 : listed.getD i true = false := by
      obtain ⟨h0, -⟩ := mem_ready.1 hr
      exact h0
    refine ⟨fun h => (by rw [h] at hr; cases hr), fun j hj => ?_⟩
    by_cases hji : j = i
    · subst hji; exact hy.wpOp hi hS ⟨fun _ => hS, H⟩
    · have h1 := H.2 j (ready_mono hj hji)
      obtain ⟨hjun, oj, hoj, hall⟩ := mem_ready.1 hj
      have hnot : ∀ e ∈ oj.after, Region.binds md e = true → e.on ≠ i := fun e he hb heq => by
        have h1 := hall e he hb
        have h0 := (mem_ready.1 hr).1
        rw [heq] at h1
        rcases Nat.lt_or_ge i listed.size with h' | h'
        · simp [h'] at h0 h1; rw [h0] at h1; cases h1
        · simp [Array.getElem?_eq_none h'] at h1
      have hjD : j ∉ D := behind_not hD hi0 hj
      have hiD : i ∉ D := behind_not hD hi0 hr
      have h2 := wpOp_putIf hoj (hfree j oj hoj hji hjun hnot) (fun cs b => hsel i oi cs b hi) (fun cs b => hsel j oj cs b hoj) hQ hy h1
      have hfree' : ∀ k ok, ops[k]? = some ok → k ≠ i → (listed.setIfInBounds j true).getD k true = false →
          (∀ e ∈ ok.after, Region.binds md e = true → e.on ≠ i) → oi.apart ops ok = true := fun k ok hk hki hun hno => by
        refine hfree k ok hk hki ?_ hno
        by_cases hjk : j = k
        · subst hjk; exact hjun
        · rw [getD_set_ne true hjk] at hun; exact hun
      have hD' : ∀ d ∈ D, (∃ o, ops[d]? = some o ∧ ∃ e ∈ o.after, Region.binds md e = true ∧ (e.on = i ∨ e.on ∈ D)) ∧ (listed.setIfInBounds j true).getD d true = false := fun d hd => by
        refine ⟨(hD d hd).1, ?_⟩
        have : j ≠ d := fun e => hjD (e ▸ hd)
        rw [getD_set_ne true this]; exact (hD d hd).2
      have hu : untilB T (((listed.setIfInBounds i true)).setIfInBounds j true) = true := until_of hTD (fun d hd => by
        have : i ≠ d := fun e => hiD (e ▸ hd)
        rw [getD_set_ne true this]; exact (hD d hd).2) hjD
      refine wpOp_mono (fun a' w' h3 => ⟨fun _ => h3.2.1 hu, ih (listed.setIfInBounds j true) a' w' hfree' hD' (ready_mono hr (Ne.symm hji)) h3.1 (h3.2.1 hu) ?_⟩) h2
      rw [Array.setIfInBounds_comm _ _ hji]
      exact h3.2.2
/- Take number i first. -/
theorem wpAnyT_take {i : Nat} {oi : Oper} {v : Value} {fuel : Nat} {listed : Array Bool} {a : Act} {w : World} (D : List Nat) (hi : ops[i]? = some oi)
    (hs : Region.noSelect ops = true) (hf : Region.free md ops listed i = true) (hr : (Region.ready md ops listed).contains i = true) (hB : behindB md ops listed i T D = true)
    (hQ : ∀ c a w, Q (.panic c) (a.put oi.dst v) w → Q (.panic c) a w) (hy : YieldsIf P ops S oi v a) (hS : S w)
    (h : wpAnyT P md ops Q S T fuel (listed.setIfInBounds i true) (a.put oi.dst v) w) : wpAnyT P md ops Q S T (fuel + 1) listed a w := by
  unfold behindB at hB
  rw [Bool.and_eq_true, List.all_eq_true, List.all_eq_true] at hB
  refine wpAnyT_first (D := D) hi (Region.noSelect_spec hs) hQ (fun t ht => by simpa using hB.2 t ht) fuel listed a w (Region.free_spec hi hf) (fun d hd => ?_) (by simpa using hr) hy hS h
  have h1 := hB.1 d hd
  rw [Bool.and_eq_true] at h1
  refine ⟨?_, by simpa using h1.2⟩
  cases ho : ops[d]? with
  | none => rw [ho] at h1; simp at h1
  | some o =>
    rw [ho] at h1
    have h2 := h1.1
    simp only [Array.any_eq_true] at h2
    obtain ⟨k, hk, h3⟩ := h2
    refine ⟨o, rfl, o.after[k], Array.getElem_mem hk, ?_⟩
    simpa using h3
/- Each of rs comes up next. -/
def AllReadyT (P : Program) (md : Region.Mode) (ops : Array Oper) (Q : Exit → Act → World → Prop) (S : World → Prop) (T : List Nat) (fuel : Nat) (listed : Array Bool) (a : Act) (w : World) (rs : List Nat) : Prop :=
  ∀ i ∈ rs, wpOp P ops Q i (fun a' w' => (untilB T (listed.setIfInBounds i true) = true → S w') ∧ wpAnyT P md ops Q S T fuel (listed.setIfInBounds i true) a' w') a w
theorem AllReadyT.nil {fuel : Nat} {listed : Array Bool} {a : Act} {w : World} : AllReadyT P md ops Q S T fuel listed a w [] := fun _ h => by cases h
/- An operation ahead of T: S is shown anew, and handed on. -/
theorem AllReadyT.cons {fuel : Nat} {listed : Array Bool} {a : Act} {w : World} {i : Nat} {o : Oper} {rs : List Nat} (ho : ops[i]? = some o)
    (h : ∀ K' : Act → World → Prop, Shut (∀ a w, S w → (S w → wpAnyT P md ops Q S T fuel (listed.setIfInBounds i true) a w) → K' a w) → if Region.wanted o (yielded ops a.tmps) = true then Oper.wp P o a w K' Q else K' (a.put o.dst undef) w)
    (hs : AllReadyT P md ops Q S T fuel listed a w rs) : AllReadyT P md ops Q S T fuel listed a w (i :: rs) := fun j hj => by
  rcases List.mem_cons.1 hj with rfl | hj
  · exact wpOp_step ho (fun K' hK => h K' (fun a w hS hW => hK a w ⟨fun _ => hS, hW hS⟩))
  · exact hs j hj
theorem wpAnyT_ready {rs : List Nat} {fuel : Nat} {listed : Array Bool} {a : Act} {w : World} (hr : Region.ready md ops listed = rs) (hne : rs ≠ [])
    (h : AllReadyT P md ops Q S T fuel listed a w rs) : wpAnyT P md ops Q S T (fuel + 1) listed a w := ⟨fun h0 => absurd (hr ▸ h0) hne, hr ▸ h⟩
/- An operation of T, or behind it, that comes up alone. -/
theorem wpAnyT_last {i : Nat} {o : Oper} {fuel : Nat} {listed : Array Bool} {a : Act} {w : World} (hr : Region.ready md ops listed = [i]) (hu : untilB T (listed.setIfInBounds i true) = false) (ho : ops[i]? = some o)
    (h : ∀ K' : Act → World → Prop, Shut (∀ a w, wpAnyT P md ops Q S T fuel (listed.setIfInBounds i true) a w → K' a w) → if Region.wanted o (yielded ops a.tmps) = true then Oper.wp P o a w K' Q else K' (a.put o.dst undef) w) :
    wpAnyT P md ops Q S T (fuel + 1) listed a w := by
  refine ⟨fun h0 => (by rw [hr] at h0; cases h0), fun j hj => ?_⟩
  rw [hr, List.mem_singleton] at hj
  subst hj
  exact wpOp_step ho (fun K' hK => h K' (fun a w hW => hK a w ⟨fun h => absurd h (by rw [hu]; simp), hW⟩))
theorem wpAnyT_done {listed : Array Bool} {a : Act} {w : World} (hr : Region.ready md ops listed = []) (h : Q .normal a w) :
    ∀ fuel, wpAnyT P md ops Q S T fuel listed a w
  | 0 => ⟨hr, h⟩
  | _ + 1 => ⟨fun _ => h, by rw [hr]; simp⟩
theorem wp_region_T {id : Nat} {a : Act} {w : World} (S : World → Prop) (T : List Nat) (hm : P.follows .mixedOrders = true) (hS : S w.drew)
    (h : S w.drew → wpAnyT P .any ops Q S T ops.size (Array.replicate ops.size false) a w.drew) : (Code.region id ops true).wp P Q a w :=
  wp_region_any hm (wpAny_of_T _ _ _ _ (h hS))
end
end Go.Proofs.YtkboplcffailoaaGreatDoor

/- A region that draws its order: what yields its value in whatever world is taken first, whatever waits. -/
set_option linter.unusedSimpArgs false
set_option linter.unusedVariables false
namespace Go.Proofs.YtkboplcffailoaaGreatDoor
open Go

section
variable {P : Program} {ops : Array Oper} {Q : Exit → Act → World → Prop} {md : Region.Mode} {S : World → Prop} {T : List Nat}

theorem until_mono {listed : Array Bool} {i : Nat} {T : List Nat} (h : untilB T (listed.setIfInBounds i true) = true) : untilB T listed = true := by
  unfold untilB at h ⊢
  rw [List.all_eq_true] at h ⊢
  intro t ht
  have h0 := h t ht
  by_cases e : i = t
  · subst e
    by_cases hs : i < listed.size
    · simp [Array.getD, hs] at h0
    · simp [Array.getD, hs] at h0
  · rw [getD_set_ne true e] at h0; exact h0
theorem until_set {listed : Array Bool} {i : Nat} {T : List Nat} (hi : i ∉ T) (h : untilB T listed = true) : untilB T (listed.setIfInBounds i true) = true := by
  unfold untilB at h ⊢
  rw [List.all_eq_true] at h ⊢
  intro t ht
  have e : i ≠ t := fun e => hi (e ▸ ht)
  rw [getD_set_ne true e]; exact h t ht
/- What yields its value in whatever world is taken first whatever waits. -/
theorem wpAnyT_firstY {i : Nat} {oi : Oper} {v : Value} (hi : ops[i]? = some oi) (hsel : ∀ (j : Nat) (o : Oper) cs b, ops[j]? = some o → o.op ≠ .select cs b)
    (hQ : ∀ c a w, Q (.panic c) (a.put oi.dst v) w → Q (.panic c) a w) (hiT : i ∉ T) :
    ∀ (fuel : Nat) (listed : Array Bool) (a : Act) (w : World),
      (∀ j oj, ops[j]? = some oj → j ≠ i → listed.getD j true = false → (∀ e ∈ oj.after, Region.binds md e = true → e.on ≠ i) → oi.apart ops oj = true) →
      i ∈ Region.ready md ops listed → Yields P ops oi v a → (untilB T listed = true → S w) →
      wpAnyT P md ops Q S T fuel (listed.setIfInBounds i true) (a.put oi.dst v) w → wpAnyT P md ops Q S T (fuel + 1) listed a w := by
  intro fuel
  induction fuel with
  | zero =>
    intro listed a w _ hr hy hS H
    refine ⟨fun h => (by rw [h] at hr; cases hr), fun j hj => ?_⟩
    by_cases hji : j = i
    · subst hji; exact hy.wpOp hi ⟨fun h => hS (until_mono h), H⟩
    · have := ready_mono hj hji
      rw [H.1] at this
      cases this
  | succ fuel ih =>
    intro listed a w hfree hr hy hS H
    refine ⟨fun h => (by rw [h] at hr; cases hr), fun j hj => ?_⟩
    by_cases hji : j = i
    · subst hji; exact hy.wpOp hi ⟨fun h => hS (until_mono h), H⟩
    · have h1 := H.2 j (ready_mono hj hji)
      obtain ⟨hjun, oj, hoj, hall⟩ := mem_ready.1 hj
      have hnot : ∀ e ∈ oj.after, Region.binds md e = true → e.on ≠ i := fun e he hb heq => by
        have h1 := hall e he hb
        have h0 := (mem_ready.1 hr).1
        rw [heq] at h1
        rcases Nat.lt_or_ge i listed.size with h' | h'
        · simp [h'] at h0 h1; rw [h0] at h1; cases h1
        · simp [Array.getElem?_eq_none h'] at h1
      have h2 := wpOp_put hoj (hfree j oj hoj hji hjun hnot) (fun cs b => hsel i oi cs b hi) (fun cs b => hsel j oj cs b hoj) hQ hy h1
      have hfree' : ∀ k ok, ops[k]? = some ok → k ≠ i → (listed.setIfInBounds j true).getD k true = false →
          (∀ e ∈ ok.after, Region.binds md e = true → e.on ≠ i) → oi.apart ops ok = true := fun k ok hk hki hun hno => by
        refine hfree k ok hk hki ?_ hno
        by_cases hjk : j = k
        · subst hjk; exact hjun
        · rw [getD_set_ne true hjk] at hun; exact hun
      refine wpOp_mono (fun a' w' h3 => ?_) h2
      have hs : untilB T (listed.setIfInBounds j true) = true → S w' := fun h => h3.2.1 (by rw [Array.setIfInBounds_comm _ _ (Ne.symm hji)]; exact until_set hiT h)
      refine ⟨hs, ih (listed.setIfInBounds j true) a' w' hfree' (ready_mono hr (Ne.symm hji)) h3.1 hs ?_⟩
      rw [Array.setIfInBounds_comm _ _ hji]
      exact h3.2.2
theorem wpAnyT_takeY {i : Nat} {oi : Oper} {v : Value} {fuel : Nat} {listed : Array Bool} {a : Act} {w : World} (hi : ops[i]? = some oi)
    (hs : Region.noSelect ops = true) (hf : Region.free md ops listed i = true) (hr : (Region.ready md ops listed).contains i = true) (hT : T.contains i = false)
    (hQ : ∀ c a w, Q (.panic c) (a.put oi.dst v) w → Q (.panic c) a w) (hy : Yields P ops oi v a) (hS : S w)
    (h : wpAnyT P md ops Q S T fuel (listed.setIfInBounds i true) (a.put oi.dst v) w) : wpAnyT P md ops Q S T (fuel + 1) listed a w :=
  wpAnyT_firstY hi (Region.noSelect_spec hs) hQ (by simpa using hT) fuel listed a w (Region.free_spec hi hf) (by simpa using hr) hy (fun _ => hS) h
end
end Go.Proofs.YtkboplcffailoaaGreatDoor

/- What the listed variables of a row give: the facts that the walks ask of a world, and a world in which they stand. -/
set_option linter.unusedSimpArgs false
set_option linter.unusedVariables false
namespace Go.Proofs.YtkboplcffailoaaGreatDoor
open Go.ChangeShapes Go.WideShapes Go.ChangeAt Go.RowKit

theorem gPow : Tryz.prog.globalNamed "internal/strconv.uint64pow10" = some 0 := by kernel_rfl
theorem gPowType : (Tryz.prog.globals[0]?).map (·.type) = some 89 := by kernel_rfl
theorem gRange : Tryz.prog.globalNamed "strconv.ErrRange" = some 3 := by kernel_rfl
theorem gRangeType : (Tryz.prog.globals[3]?).map (·.type) = some 62 := by kernel_rfl
theorem gSyntax : Tryz.prog.globalNamed "strconv.ErrSyntax" = some 2 := by kernel_rfl
theorem gSyntaxType : (Tryz.prog.globals[2]?).map (·.type) = some 62 := by kernel_rfl
theorem cellsPow : Tryz.prog.cellsOf 89 = 20 := by kernel_rfl
theorem cellsU64 : Tryz.prog.cellsOf 69 = 1 := by kernel_rfl
theorem cellsErrS : Tryz.prog.cellsOf 121 = 1 := by kernel_rfl
theorem star : "*" ++ "errors.errorString" = "*errors.errorString" := by decide
theorem rowErr (u : TypeId) (h : Tryz.prog.typeName? 3 u = some "*errors.errorString") : u = 119 :=
  typeName_ptr_named (nm := "errors.errorString") (by rw [star]; kernel_rfl) (by kernel_rfl) (by decide) u (by rw [star]; exact h)

def laidAll : List (String × DataW Unit) := [("math/bits.deBruijn32tab", Rows.laid_math_bits_deBruijn32tab), ("math/bits.deBruijn64tab", Rows.laid_math_bits_deBruijn64tab), ("internal/strconv.uint64pow10", Rows.laid_internal_strconv_uint64pow10), ("strconv.ErrRange", Rows.laid_strconv_ErrRange), ("strconv.ErrSyntax", Rows.laid_strconv_ErrSyntax)]
theorem powData : (Rows.laid_internal_strconv_uint64pow10 : DataW Unit) = Lib.tabData .u64 Lib.pow10Tab := by kernel_rfl
theorem glob_of {W : World} (h : laidMet Tryz.prog laidAll W) : Glob W := by
  have h3 := h.tail.tail
  have h4 := h3.tail
  have h5 := h4.tail
  rw [powData] at h3
  have hp := Lib.tabIs_of_head gPow gPowType Tryz.underlying89 Tryz.underlying69 cellsU64 cellsPow h3
  obtain ⟨a1, s1, hv1, -, -, -⟩ := laid_sentinel h4 gRange gRangeType Tryz.underlying62 rowErr Tryz.underlying119 Tryz.underlying121 rfl rfl Tryz.underlying9 cellsErrS cellsString
  obtain ⟨a2, s2, hv2, -, -, -⟩ := laid_sentinel h5 gSyntax gSyntaxType Tryz.underlying62 rowErr Tryz.underlying119 Tryz.underlying121 rfl rfl Tryz.underlying9 cellsErrS cellsString
  obtain ⟨t1, f1, e1⟩ := var_block gRange hv1
  obtain ⟨t2, f2, e2⟩ := var_block gSyntax hv2
  obtain ⟨t3, f3, e3⟩ := var_block gPow hp
  exact ⟨⟨_, _, t2, f2, e2⟩, ⟨_, _, t1, f1, e1⟩, t3, f3, e3⟩

noncomputable def laidWorld (os : Os) : World :=
  let w0 := World.holding Tryz.prog os ⟨#[.cells #[errText Rows.laid_strconv_ErrRange] 121, .cells #[errText Rows.laid_strconv_ErrSyntax] 121], #[], []⟩
  { w0 with heap := putAt (putAt (putAt (putAt (putAt w0.heap 4 (tabCells Rows.laid_math_bits_deBruijn32tab)) 5 (tabCells Rows.laid_math_bits_deBruijn64tab)) 0 (tabCells Rows.laid_internal_strconv_uint64pow10))
      3 #[.iface 119 (.pointer (some ⟨low, 0, none⟩))]) 2 #[.iface 119 (.pointer (some ⟨low + 1, 0, none⟩))] }
set_option maxRecDepth 100000 in
theorem laid_met (os : Os) (args : Array Value) : laidMet Tryz.prog laidAll ((laidWorld os).forCall (fun _ _ => 0) ⟨#[], args, []⟩).memory :=
  laidMet_of_run' 8 (by kernel_rfl) (by kernel_rfl)
end Go.Proofs.YtkboplcffailoaaGreatDoor

/- What reads reads, and what it shows. -/
set_option linter.unusedSimpArgs false
set_option linter.unusedVariables false
namespace Go.Proofs.YtkboplcffailoaaGreatDoor
open Go.RowKit

def readL : List UInt8 := [32, 123, 34, 98, 34, 58, 32, 91, 49, 44, 32, 110, 117, 108, 108, 93, 44, 32, 34, 97, 34, 58, 32, 34, 120, 92, 117, 48, 48, 52, 49, 34, 125]
def shownL : List UInt8 := [123, 34, 97, 34, 58, 34, 120, 65, 34, 44, 34, 98, 34, 58, 91, 49, 44, 110, 117, 108, 108, 93, 125]
theorem read_ok : (parseS readL).2 = 0 := by decide +kernel
theorem shown_ok : printR 2003 (parseS readL).1 = (shownL, 0) := by decide +kernel

end Go.Proofs.YtkboplcffailoaaGreatDoor

/- That reads of package stairwelllaw answers yes. -/
set_option linter.unusedSimpArgs false
set_option linter.unusedVariables false
namespace Go.Proofs.YtkboplcffailoaaGreatDoor
open Go.RowKit

set_option maxRecDepth 100000 in
set_option maxHeartbeats 4000000 in
theorem lreads_at (w : World) (hG : Glob w) :
    Calls Tryz.prog 12 #[] w fun e w' => e = .returned (.bool true) ∧ Below w.heap.size w w' := by
  have HG := hidI hG
  clear hG
  go_enter Tryz.func12, Tryz.ntmps12
  go_wp2_with fail
  refine (parse_at _ readL (by decide) HG.out).mono ?_
  rintro e w1 ⟨t, ee, a7, a8, c7, c8, rfl, hp, hv, hb⟩
  have h0 := read_ok
  have h1 := shown_ok
  rw [hp] at h0 h1
  simp only at h0 h1
  subst h0
  have HP := hidI h1
  have HV := hidI hv
  have HB := hidI hb
  have HG1 : Hid (Glob w1) := HG.out.grown (gb_below (r := none) hb) (by simp)
  clear hp hv hb h1
  go_wp2_with fail
  refine (Print_at _ _ 2003 t _ (by exact HV.out.bel (bel_alloc _ _)) (by exact HG1.out.grown (World.grownBy_alloc _ _ none) (by simp))).mono ?_
  rintro e w2 ⟨l, ef, rfl, hq, hb2⟩
  rw [HP.out] at hq
  simp only [Prod.mk.injEq] at hq
  obtain ⟨rfl, rfl⟩ := hq
  have B2 := hidI (bel_trans HB.out (bel_trans (bel_alloc _ _) hb2))
  clear hb2
  have hs : (ByteArray.mk shownL.toArray == ByteArray.mk #[123, 34, 97, 34, 58, 34, 120, 65, 34, 44, 34, 98, 34, 58, 91, 49, 44, 110, 117, 108, 108, 93, 125]) = true := ba_eq rfl
  go_wp2_with fail
  go_ret
  exact ⟨rfl, B2.out⟩
end Go.Proofs.YtkboplcffailoaaGreatDoor

/- What JsonPrints of package stairwelllaw answers. -/
set_option linter.unusedSimpArgs false
set_option linter.unusedVariables false
namespace Go.Proofs.YtkboplcffailoaaGreatDoor
open Go.RowKit

attribute [local go_sem ↓] Go.wp_at_zero Go.wp_at_succ
open Classical in
set_option maxRecDepth 100000 in
set_option maxHeartbeats 40000000 in
theorem jsonPrints_walk (w : World) (okt : Nat → Prop) (dt : Nat) (t : V) (vt : Value) (ht : VIs w okt dt t vt) (hN : siz t ≤ 2000000) (hG : Glob w) :
    Calls Tryz.prog 3 #[vt] w fun e w' => e = .returned (.bool true) ∧ Below w.heap.size w w' := by
  have HG := hidI hG
  have HC : Hid (cnt t ≤ 2000000) := hidI (Nat.le_trans (cnt_siz t) hN)
  have HN := hidI hN
  have qt : In w (fun _ => True) t vt := ht.is.weak fun _ _ => trivial
  have Ht := hidI qt
  obtain ⟨la1, lb1, lc1⟩ := qt.lens
  obtain ⟨a1, b1, c1, d1, rfl⟩ := qt.form
  clear qt ht
  obtain ⟨pr, hpr⟩ : ∃ pr, printR 12 t = pr := ⟨_, rfl⟩
  obtain ⟨pl, pe⟩ := pr
  have HPR := hidI hpr
  clear hG hN hpr
  have B0 : Hid (Below w.heap.size w (w.alloc (.cells #[.int .i64 t.kind, .int .i64 t.n, .string ⟨t.s.toArray⟩, .slice a1 t.keys.length c1, .slice b1 t.l.length d1] 25))) := hidI (bel_alloc _ _)
  have K0 : Hid ((BoxIs (w.alloc (.cells #[.int .i64 t.kind, .int .i64 t.n, .string ⟨t.s.toArray⟩, .slice a1 t.keys.length c1, .slice b1 t.l.length d1] 25)) w.heap.size (.int .i64 t.kind) (.int .i64 t.n) (.string ⟨t.s.toArray⟩) (.slice a1 t.keys.length c1) (.slice b1 t.l.length d1)) ∧ (In (w.alloc (.cells #[.int .i64 t.kind, .int .i64 t.n, .string ⟨t.s.toArray⟩, .slice a1 t.keys.length c1, .slice b1 t.l.length d1] 25)) (fun _ => True) t (.agg #[.int .i64 t.kind, .int .i64 t.n, .string ⟨t.s.toArray⟩, .slice a1 t.keys.length c1, .slice b1 t.l.length d1])) ∧ Below w.heap.size w (w.alloc (.cells #[.int .i64 t.kind, .int .i64 t.n, .string ⟨t.s.toArray⟩, .slice a1 t.keys.length c1, .slice b1 t.l.length d1] 25))) := hidI ⟨heap_alloc_new w _, Ht.out.bel B0.out, B0.out⟩
  go_enter Tryz.func3, Tryz.ntmps3
  obtain ⟨x00, x01, x02, x03, x04, -⟩ := K0.out.1.c
  go_wp2_with fail
  refine (rcopy_is _ (fun _ => True) t _ (by exact K0.out.2.1) (by have := HN.out; omega)).mono ?_
  rintro e w1 ⟨r2, rfl, hb1, hr2⟩
  obtain ⟨a2, b2, c2, d2, rfl⟩ := hr2.form
  have hbb2 := bel_trans hb1 (bel_alloc w1 (.cells #[.int .i64 t.kind, .int .i64 t.n, .string ⟨t.s.toArray⟩, .slice a2 t.keys.length c2, .slice b2 t.l.length d2] 25))
  have K1 : Hid ((BoxIs (w1.alloc (.cells #[.int .i64 t.kind, .int .i64 t.n, .string ⟨t.s.toArray⟩, .slice a2 t.keys.length c2, .slice b2 t.l.length d2] 25)) w.heap.size (.int .i64 t.kind) (.int .i64 t.n) (.string ⟨t.s.toArray⟩) (.slice a1 t.keys.length c1) (.slice b1 t.l.length d1) ∧ BoxIs (w1.alloc (.cells #[.int .i64 t.kind, .int .i64 t.n, .string ⟨t.s.toArray⟩, .slice a2 t.keys.length c2, .slice b2 t.l.length d2] 25)) w1.heap.size (.int .i64 t.kind) (.int .i64 t.n) (.string ⟨t.s.toArray⟩) (.slice a2 t.keys.length c2) (.slice b2 t.l.length d2)) ∧ (In (w1.alloc (.cells #[.int .i64 t.kind, .int .i64 t.n, .string ⟨t.s.toArray⟩, .slice a2 t.keys.length c2, .slice b2 t.l.length d2] 25)) (fun _ => True) t (.agg #[.int .i64 t.kind, .int .i64 t.n, .string ⟨t.s.toArray⟩, .slice a1 t.keys.length c1, .slice b1 t.l.length d1]) ∧ In (w1.alloc (.cells #[.int .i64 t.kind, .int .i64 t.n, .string ⟨t.s.toArray⟩, .slice a2 t.keys.length c2, .slice b2 t.l.length d2] 25)) (fun _ => True) t (.agg #[.int .i64 t.kind, .int .i64 t.n, .string ⟨t.s.toArray⟩, .slice a2 t.keys.length c2, .slice b2 t.l.length d2])) ∧ Below w.heap.size w (w1.alloc (.cells #[.int .i64 t.kind, .int .i64 t.n, .string ⟨t.s.toArray⟩, .slice a2 t.keys.length c2, .slice b2 t.l.length d2] 25))) := hidI ⟨⟨box_bel hbb2 K0.out.1, heap_alloc_new w1 _⟩, ⟨K0.out.2.1.bel hbb2, (hr2.bel (bel_alloc _ _)).weak fun _ _ => trivial⟩, bel_trans K0.out.2.2 hbb2⟩
  clear hr2 hb1 hbb2 x00 x01 x02 x03 x04
  obtain ⟨x00, x01, x02, x03, x04, -⟩ := K1.out.1.1.c
  obtain ⟨x10, x11, x12, x13, x14, -⟩ := K1.out.1.2.c
  go_wp2_with fail
  refine (print_is _ (fun _ => True) t _ (by exact K1.out.2.1.2) (by exact HG.out.grown (gb_below (r := none) K1.out.2.2) (by simp))).mono ?_
  rintro e w2 ⟨rfl, hb2⟩
  rw [HPR.out]
  simp only
  have K2 : Hid ((BoxIs w2 w.heap.size (.int .i64 t.kind) (.int .i64 t.n) (.string ⟨t.s.toArray⟩) (.slice a1 t.keys.length c1) (.slice b1 t.l.length d1) ∧ BoxIs w2 w1.heap.size (.int .i64 t.kind) (.int .i64 t.n) (.string ⟨t.s.toArray⟩) (.slice a2 t.keys.length c2) (.slice b2 t.l.length d2)) ∧ (In w2 (fun _ => True) t (.agg #[.int .i64 t.kind, .int .i64 t.n, .string ⟨t.s.toArray⟩, .slice a1 t.keys.length c1, .slice b1 t.l.length d1]) ∧ In w2 (fun _ => True) t (.agg #[.int .i64 t.kind, .int .i64 t.n, .string ⟨t.s.toArray⟩, .slice a2 t.keys.length c2, .slice b2 t.l.length d2])) ∧ Below w.heap.size w w2) := hidI ⟨⟨box_bel hb2 K1.out.1.1, box_bel hb2 K1.out.1.2⟩, ⟨K1.out.2.1.1.bel hb2, K1.out.2.1.2.bel hb2⟩, bel_trans K1.out.2.2 hb2⟩
  clear hb2 x00 x01 x02 x03 x04 x10 x11 x12 x13 x14
  obtain ⟨x00, x01, x02, x03, x04, -⟩ := K2.out.1.1.c
  obtain ⟨x10, x11, x12, x13, x14, -⟩ := K2.out.1.2.c
  go_wp2_with fail
  refine (rprint_is _ (fun _ => True) t _ (by exact K2.out.2.1.1) (by have := HC.out; omega)).mono ?_
  rintro e w3 ⟨rfl, hb3⟩
  rw [HPR.out]
  simp only
  have K3 : Hid ((BoxIs w3 w.heap.size (.int .i64 t.kind) (.int .i64 t.n) (.string ⟨t.s.toArray⟩) (.slice a1 t.keys.length c1) (.slice b1 t.l.length d1) ∧ BoxIs w3 w1.heap.size (.int .i64 t.kind) (.int .i64 t.n) (.string ⟨t.s.toArray⟩) (.slice a2 t.keys.length c2) (.slice b2 t.l.length d2)) ∧ (In w3 (fun _ => True) t (.agg #[.int .i64 t.kind, .int .i64 t.n, .string ⟨t.s.toArray⟩, .slice a1 t.keys.length c1, .slice b1 t.l.length d1]) ∧ In w3 (fun _ => True) t (.agg #[.int .i64 t.kind, .int .i64 t.n, .string ⟨t.s.toArray⟩, .slice a2 t.keys.length c2, .slice b2 t.l.length d2])) ∧ Below w.heap.size w w3) := hidI ⟨⟨box_bel hb3 K2.out.1.1, box_bel hb3 K2.out.1.2⟩, ⟨K2.out.2.1.1.bel hb3, K2.out.2.1.2.bel hb3⟩, bel_trans K2.out.2.2 hb3⟩
  clear hb3 x00 x01 x02 x03 x04 x10 x11 x12 x13 x14
  obtain ⟨x00, x01, x02, x03, x04, -⟩ := K3.out.1.1.c
  obtain ⟨x10, x11, x12, x13, x14, -⟩ := K3.out.1.2.c
  go_upto_region 4 with fail
  refine wp_region_T (fun wS => (BoxIs wS w.heap.size (.int .i64 t.kind) (.int .i64 t.n) (.string ⟨t.s.toArray⟩) (.slice a1 t.keys.length c1) (.slice b1 t.l.length d1) ∧ BoxIs wS w1.heap.size (.int .i64 t.kind) (.int .i64 t.n) (.string ⟨t.s.toArray⟩) (.slice a2 t.keys.length c2) (.slice b2 t.l.length d2)) ∧ (In wS (fun _ => True) t (.agg #[.int .i64 t.kind, .int .i64 t.n, .string ⟨t.s.toArray⟩, .slice a1 t.keys.length c1, .slice b1 t.l.length d1]) ∧ In wS (fun _ => True) t (.agg #[.int .i64 t.kind, .int .i64 t.n, .string ⟨t.s.toArray⟩, .slice a2 t.keys.length c2, .slice b2 t.l.length d2])) ∧ Below w.heap.size w wS) [] (by kernel_rfl) ⟨⟨box_bel (bel_drewN _ 1) K3.out.1.1, box_bel (bel_drewN _ 1) K3.out.1.2⟩, ⟨K3.out.2.1.1.bel (bel_drewN _ 1), K3.out.2.1.2.bel (bel_drewN _ 1)⟩, bel_trans K3.out.2.2 (bel_drewN _ 1)⟩ (fun hHeld => ?_)
  clear x00 x01 x02 x03 x04 x10 x11 x12 x13 x14
  refine wpAnyT_take (i := 0) (v := ?_) [] (oi := { dst := some 20, op := Go.Op.move (Go.Operand.tmp 4), type := 9, pos := "law.go:37", after := #[], guard := none }) rfl (by kernel_rfl) (by kernel_rfl) (by kernel_rfl) (by kernel_rfl) (fun _ _ _ h => h) (Or.inl ⟨by rfl, ?_⟩) hHeld ?_
  rotate_left
  · intro wS hSw
    go_simp
    all_goals with_reducible rfl
  simp only [Act.put, List.setIfInBounds_toArray, List.set_cons_zero, List.set_cons_succ]
  refine wpAnyT_take (i := 1) (v := ?_) [] (oi := { dst := some 21, op := Go.Op.move (Go.Operand.tmp 6), type := 9, pos := "law.go:37", after := #[], guard := none }) rfl (by kernel_rfl) (by kernel_rfl) (by kernel_rfl) (by kernel_rfl) (fun _ _ _ h => h) (Or.inl ⟨by rfl, ?_⟩) hHeld ?_
  rotate_left
  · intro wS hSw
    go_simp
    all_goals with_reducible rfl
  simp only [Act.put, List.setIfInBounds_toArray, List.set_cons_zero, List.set_cons_succ]
  refine wpAnyT_take (i := 2) (v := ?_) [] (oi := { dst := some 22, op := Go.Op.binOp Go.BinOp.eql 9 (Go.Operand.tmp 20) (Go.Operand.tmp 21) 9, type := 4, pos := "law.go:37", after := #[{ on := 0, ground := Go.Ground.data }, { on := 1, ground := Go.Ground.data }], guard := none }) rfl (by kernel_rfl) (by kernel_rfl) (by kernel_rfl) (by kernel_rfl) (fun _ _ _ h => h) (Or.inl ⟨by rfl, ?_⟩) hHeld ?_
  rotate_left
  · intro wS hSw
    go_simp
    all_goals with_reducible rfl
  simp only [Act.put, List.setIfInBounds_toArray, List.set_cons_zero, List.set_cons_succ]
  refine wpAnyT_take (i := 3) (v := ?_) [] (oi := { dst := some 23, op := Go.Op.move (Go.Operand.tmp 22), type := 4, pos := "law.go:37", after := #[{ on := 2, ground := Go.Ground.data }], guard := none }) rfl (by kernel_rfl) (by kernel_rfl) (by kernel_rfl) (by kernel_rfl) (fun _ _ _ h => h) (Or.inl ⟨by rfl, ?_⟩) hHeld ?_
  rotate_left
  · intro wS hSw
    go_simp
    all_goals with_reducible rfl
  simp only [Act.put, List.setIfInBounds_toArray, List.set_cons_zero, List.set_cons_succ]
  refine wpAnyT_take (i := 4) (v := ?_) [] (oi := { dst := some 24, op := Go.Op.move (Go.Operand.tmp 5), type := 27, pos := "law.go:37", after := #[{ on := 3, ground := Go.Ground.guard }], guard := some (3, true) }) rfl (by kernel_rfl) (by kernel_rfl) (by kernel_rfl) (by kernel_rfl) (fun _ _ _ h => h) (Or.inl ⟨by rfl, ?_⟩) hHeld ?_
  rotate_left
  · intro wS hSw
    go_simp
    all_goals with_reducible rfl
  simp only [Act.put, List.setIfInBounds_toArray, List.set_cons_zero, List.set_cons_succ]
  refine wpAnyT_take (i := 5) (v := ?_) [] (oi := { dst := some 25, op := Go.Op.move (Go.Operand.tmp 7), type := 27, pos := "law.go:37", after := #[{ on := 3, ground := Go.Ground.guard }], guard := some (3, true) }) rfl (by kernel_rfl) (by kernel_rfl) (by kernel_rfl) (by kernel_rfl) (fun _ _ _ h => h) (Or.inl ⟨by rfl, ?_⟩) hHeld ?_
  rotate_left
  · intro wS hSw
    go_simp
    all_goals with_reducible rfl
  simp only [Act.put, List.setIfInBounds_toArray, List.set_cons_zero, List.set_cons_succ]
  refine wpAnyT_take (i := 6) (v := ?_) [] (oi := { dst := some 26, op := Go.Op.binOp Go.BinOp.eql 27 (Go.Operand.tmp 24) (Go.Operand.tmp 25) 27, type := 4, pos := "law.go:37", after := #[{ on := 4, ground := Go.Ground.data }, { on := 5, ground := Go.Ground.data }, { on := 3, ground := Go.Ground.guard }], guard := some (3, true) }) rfl (by kernel_rfl) (by kernel_rfl) (by kernel_rfl) (by kernel_rfl) (fun _ _ _ h => h) (Or.inl ⟨by rfl, ?_⟩) hHeld ?_
  rotate_left
  · intro wS hSw
    go_simp
    all_goals with_reducible rfl
  simp only [Act.put, List.setIfInBounds_toArray, List.set_cons_zero, List.set_cons_succ]
  refine wpAnyT_take (i := 7) (v := ?_) [] (oi := { dst := some 27, op := Go.Op.pick (Go.Operand.tmp 23) (Go.Operand.tmp 26) (Go.Operand.const (Go.Value.bool false)), type := 4, pos := "law.go:37", after := #[{ on := 3, ground := Go.Ground.data }, { on := 6, ground := Go.Ground.data }], guard := none }) rfl (by kernel_rfl) (by kernel_rfl) (by kernel_rfl) (by kernel_rfl) (fun _ _ _ h => h) (Or.inl ⟨by rfl, ?_⟩) hHeld ?_
  rotate_left
  · intro wS hSw
    go_simp
    all_goals with_reducible rfl
  simp only [Act.put, List.setIfInBounds_toArray, List.set_cons_zero, List.set_cons_succ]
  refine wpAnyT_take (i := 8) (v := ?_) [] (oi := { dst := some 28, op := Go.Op.move (Go.Operand.tmp 27), type := 4, pos := "law.go:37", after := #[{ on := 7, ground := Go.Ground.data }, { on := 3, ground := Go.Ground.chain }], guard := none }) rfl (by kernel_rfl) (by kernel_rfl) (by kernel_rfl) (by kernel_rfl) (fun _ _ _ h => h) (Or.inl ⟨by rfl, ?_⟩) hHeld ?_
  rotate_left
  · intro wS hSw
    go_simp
    all_goals with_reducible rfl
  simp only [Act.put, List.setIfInBounds_toArray, List.set_cons_zero, List.set_cons_succ]
  refine wpAnyT_take (i := 9) (v := ?_) [] (oi := { dst := some 29, op := Go.Op.load 25 (Go.Operand.tmp 3), type := 25, pos := "law.go:37", after := #[{ on := 8, ground := Go.Ground.guard }], guard := some (8, true) }) rfl (by kernel_rfl) (by kernel_rfl) (by kernel_rfl) (by kernel_rfl) (fun _ _ _ h => h) (Or.inl ⟨by rfl, ?_⟩) hHeld ?_
  rotate_left
  · intro wS hSw
    obtain ⟨⟨B0, B1⟩, -, -⟩ := hSw
    obtain ⟨y00, y01, y02, y03, y04, -⟩ := B0.c
    obtain ⟨y10, y11, y12, y13, y14, -⟩ := B1.c
    go_simp
    all_goals with_reducible rfl
  simp only [Act.put, List.setIfInBounds_toArray, List.set_cons_zero, List.set_cons_succ]
  refine wpAnyT_take (i := 11) (v := ?_) [] (oi := { dst := some 31, op := Go.Op.load 25 (Go.Operand.tmp 1), type := 25, pos := "law.go:37", after := #[{ on := 8, ground := Go.Ground.guard }], guard := some (8, true) }) rfl (by kernel_rfl) (by kernel_rfl) (by kernel_rfl) (by kernel_rfl) (fun _ _ _ h => h) (Or.inl ⟨by rfl, ?_⟩) hHeld ?_
  rotate_left
  · intro wS hSw
    obtain ⟨⟨B0, B1⟩, -, -⟩ := hSw
    obtain ⟨y00, y01, y02, y03, y04, -⟩ := B0.c
    obtain ⟨y10, y11, y12, y13, y14, -⟩ := B1.c
    go_simp
    all_goals with_reducible rfl
  simp only [Act.put, List.setIfInBounds_toArray, List.set_cons_zero, List.set_cons_succ]
  refine wpAnyT_ready (rs := [10]) (by kernel_rfl) (by simp) ?_
  refine AllReadyT.cons (i := 10) (o := { dst := some 30, op := Go.Op.call { callee := Go.Callee.value (Go.Operand.func 7), args := #[Go.Operand.tmp 29], argTypes := #[25] }, type := 4, pos := "law.go:37", after := #[{ on := 9, ground := Go.Ground.data }, { on := 8, ground := Go.Ground.chain }, { on := 8, ground := Go.Ground.guard }], guard := some (8, true) }) rfl (fun K hK => ?_) ?_
  · go_simp
    refine (good_is _ (fun _ => True) t _ (by exact hHeld.2.1.2)).mono ?_
    rintro e w10q ⟨rfl, hb10⟩
    refine hK.out _ _ (⟨⟨box_bel hb10 hHeld.1.1, box_bel hb10 hHeld.1.2⟩, ⟨hHeld.2.1.1.bel hb10, hHeld.2.1.2.bel hb10⟩, bel_trans hHeld.2.2 hb10⟩) (fun hHeld2 => ?_)
    clear hb10
    clear hK K
    replace hHeld := hHeld2
    clear hHeld2
    try simp only [Act.put, List.setIfInBounds_toArray, List.set_cons_zero, List.set_cons_succ]
    refine wpAnyT_ready (rs := [12]) (by kernel_rfl) (by simp) ?_
    refine AllReadyT.cons (i := 12) (o := { dst := some 32, op := Go.Op.call { callee := Go.Callee.value (Go.Operand.func 8), args := #[Go.Operand.tmp 31], argTypes := #[25] }, type := 4, pos := "law.go:37", after := #[{ on := 11, ground := Go.Ground.data }, { on := 10, ground := Go.Ground.chain }, { on := 8, ground := Go.Ground.guard }], guard := some (8, true) }) rfl (fun K hK => ?_) ?_
    · go_simp
      refine (rgood_is _ (fun _ => True) t _ (by exact hHeld.2.1.1) (by have := HC.out; omega)).mono ?_
      rintro e w12q ⟨rfl, hb12⟩
      refine hK.out _ _ (⟨⟨box_bel hb12 hHeld.1.1, box_bel hb12 hHeld.1.2⟩, ⟨hHeld.2.1.1.bel hb12, hHeld.2.1.2.bel hb12⟩, bel_trans hHeld.2.2 hb12⟩) (fun hHeld2 => ?_)
      clear hb12
      clear hK K
      replace hHeld := hHeld2
      clear hHeld2
      try simp only [Act.put, List.setIfInBounds_toArray, List.set_cons_zero, List.set_cons_succ]
      refine wpAnyT_take (i := 13) (v := ?_) [] (oi := { dst := some 33, op := Go.Op.binOp Go.BinOp.eql 4 (Go.Operand.tmp 30) (Go.Operand.tmp 32) 4, type := 4, pos := "law.go:37", after := #[{ on := 10, ground := Go.Ground.data }, { on := 12, ground := Go.Ground.data }, { on := 8, ground := Go.Ground.guard }], guard := some (8, true) }) rfl (by kernel_rfl) (by kernel_rfl) (by kernel_rfl) (by kernel_rfl) (fun _ _ _ h => h) (Or.inl ⟨by rfl, ?_⟩) hHeld ?_
      rotate_left
      · intro wS hSw
        go_simp
        all_goals with_reducible rfl
      simp only [Act.put, List.setIfInBounds_toArray, List.set_cons_zero, List.set_cons_succ]
      refine wpAnyT_take (i := 14) (v := ?_) [] (oi := { dst := some 34, op := Go.Op.pick (Go.Operand.tmp 28) (Go.Operand.tmp 33) (Go.Operand.const (Go.Value.bool false)), type := 4, pos := "law.go:37", after := #[{ on := 8, ground := Go.Ground.data }, { on := 13, ground := Go.Ground.data }], guard := none }) rfl (by kernel_rfl) (by kernel_rfl) (by kernel_rfl) (by kernel_rfl) (fun _ _ _ h => h) (Or.inl ⟨by rfl, ?_⟩) hHeld ?_
      rotate_left
      · intro wS hSw
        go_simp
        all_goals with_reducible rfl
      simp only [Act.put, List.setIfInBounds_toArray, List.set_cons_zero, List.set_cons_succ]
      refine wpAnyT_take (i := 15) (v := ?_) [] (oi := { dst := some 35, op := Go.Op.move (Go.Operand.tmp 34), type := 4, pos := "law.go:37", after := #[{ on := 14, ground := Go.Ground.data }, { on := 12, ground := Go.Ground.chain }], guard := none }) rfl (by kernel_rfl) (by kernel_rfl) (by kernel_rfl) (by kernel_rfl) (fun _ _ _ h => h) (Or.inl ⟨by rfl, ?_⟩) hHeld ?_
      rotate_left
      · intro wS hSw
        go_simp
        all_goals with_reducible rfl
      simp only [Act.put, List.setIfInBounds_toArray, List.set_cons_zero, List.set_cons_succ]
      refine wpAnyT_take (i := 16) (v := ?_) [] (oi := { dst := some 36, op := Go.Op.load 25 (Go.Operand.tmp 3), type := 25, pos := "law.go:37", after := #[{ on := 15, ground := Go.Ground.guard }], guard := some (15, true) }) rfl (by kernel_rfl) (by kernel_rfl) (by kernel_rfl) (by kernel_rfl) (fun _ _ _ h => h) (Or.inl ⟨by rfl, ?_⟩) hHeld ?_
      rotate_left
      · intro wS hSw
        obtain ⟨⟨B0, B1⟩, -, -⟩ := hSw
        obtain ⟨y00, y01, y02, y03, y04, -⟩ := B0.c
        obtain ⟨y10, y11, y12, y13, y14, -⟩ := B1.c
        go_simp
        all_goals with_reducible rfl
      simp only [Act.put, List.setIfInBounds_toArray, List.set_cons_zero, List.set_cons_succ]
      refine wpAnyT_take (i := 18) (v := ?_) [] (oi := { dst := some 38, op := Go.Op.load 25 (Go.Operand.tmp 1), type := 25, pos := "law.go:37", after := #[{ on := 15, ground := Go.Ground.guard }], guard := some (15, true) }) rfl (by kernel_rfl) (by kernel_rfl) (by kernel_rfl) (by kernel_rfl) (fun _ _ _ h => h) (Or.inl ⟨by rfl, ?_⟩) hHeld ?_
      rotate_left
      · intro wS hSw
        obtain ⟨⟨B0, B1⟩, -, -⟩ := hSw
        obtain ⟨y00, y01, y02, y03, y04, -⟩ := B0.c
        obtain ⟨y10, y11, y12, y13, y14, -⟩ := B1.c
        go_simp
        all_goals with_reducible rfl
      simp only [Act.put, List.setIfInBounds_toArray, List.set_cons_zero, List.set_cons_succ]
      refine wpAnyT_ready (rs := [17]) (by kernel_rfl) (by simp) ?_
      refine AllReadyT.cons (i := 17) (o := { dst := some 37, op := Go.Op.call { callee := Go.Callee.value (Go.Operand.func 9), args := #[Go.Operand.tmp 36], argTypes := #[25] }, type := 3, pos := "law.go:37", after := #[{ on := 16, ground := Go.Ground.data }, { on := 15, ground := Go.Ground.chain }, { on := 15, ground := Go.Ground.guard }], guard := some (15, true) }) rfl (fun K hK => ?_) ?_
      · go_simp
        refine (count_is _ (fun _ => True) t _ (by exact hHeld.2.1.2) (by have := HC.out; omega)).mono ?_
        rintro e w17q ⟨rfl, hb17⟩
        refine hK.out _ _ (⟨⟨box_bel hb17 hHeld.1.1, box_bel hb17 hHeld.1.2⟩, ⟨hHeld.2.1.1.bel hb17, hHeld.2.1.2.bel hb17⟩, bel_trans hHeld.2.2 hb17⟩) (fun hHeld2 => ?_)
        clear hb17
        clear hK K
        replace hHeld := hHeld2
        clear hHeld2
        try simp only [Act.put, List.setIfInBounds_toArray, List.set_cons_zero, List.set_cons_succ]
        refine wpAnyT_ready (rs := [19]) (by kernel_rfl) (by simp) ?_
        refine AllReadyT.cons (i := 19) (o := { dst := some 39, op := Go.Op.call { callee := Go.Callee.value (Go.Operand.func 10), args := #[Go.Operand.tmp 38], argTypes := #[25] }, type := 3, pos := "law.go:37", after := #[{ on := 18, ground := Go.Ground.data }, { on := 17, ground := Go.Ground.chain }, { on := 15, ground := Go.Ground.guard }], guard := some (15, true) }) rfl (fun K hK => ?_) ?_
        · go_simp
          refine (rcount_is _ (fun _ => True) t _ (by exact hHeld.2.1.1) (by have := HC.out; omega)).mono ?_
          rintro e w19q ⟨rfl, hb19⟩
          refine hK.out _ _ (⟨⟨box_bel hb19 hHeld.1.1, box_bel hb19 hHeld.1.2⟩, ⟨hHeld.2.1.1.bel hb19, hHeld.2.1.2.bel hb19⟩, bel_trans hHeld.2.2 hb19⟩) (fun hHeld2 => ?_)
          clear hb19
          clear hK K
          replace hHeld := hHeld2
          clear hHeld2
          try simp only [Act.put, List.setIfInBounds_toArray, List.set_cons_zero, List.set_cons_succ]
          refine wpAnyT_take (i := 20) (v := ?_) [] (oi := { dst := some 40, op := Go.Op.binOp Go.BinOp.eql 3 (Go.Operand.tmp 37) (Go.Operand.tmp 39) 3, type := 4, pos := "law.go:37", after := #[{ on := 17, ground := Go.Ground.data }, { on := 19, ground := Go.Ground.data }, { on := 15, ground := Go.Ground.guard }], guard := some (15, true) }) rfl (by kernel_rfl) (by kernel_rfl) (by kernel_rfl) (by kernel_rfl) (fun _ _ _ h => h) (Or.inl ⟨by rfl, ?_⟩) hHeld ?_
          rotate_left
          · intro wS hSw
            go_simp
            all_goals with_reducible rfl
          simp only [Act.put, List.setIfInBounds_toArray, List.set_cons_zero, List.set_cons_succ]
          refine wpAnyT_take (i := 21) (v := ?_) [] (oi := { dst := some 41, op := Go.Op.pick (Go.Operand.tmp 35) (Go.Operand.tmp 40) (Go.Operand.const (Go.Value.bool false)), type := 4, pos := "law.go:37", after := #[{ on := 15, ground := Go.Ground.data }, { on := 20, ground := Go.Ground.data }], guard := none }) rfl (by kernel_rfl) (by kernel_rfl) (by kernel_rfl) (by kernel_rfl) (fun _ _ _ h => h) (Or.inl ⟨by rfl, ?_⟩) hHeld ?_
          rotate_left
          · intro wS hSw
            go_simp
            all_goals with_reducible rfl
          simp only [Act.put, List.setIfInBounds_toArray, List.set_cons_zero, List.set_cons_succ]
          refine wpAnyT_take (i := 22) (v := ?_) [] (oi := { dst := some 42, op := Go.Op.move (Go.Operand.tmp 41), type := 4, pos := "law.go:37", after := #[{ on := 21, ground := Go.Ground.data }, { on := 19, ground := Go.Ground.chain }], guard := none }) rfl (by kernel_rfl) (by kernel_rfl) (by kernel_rfl) (by kernel_rfl) (fun _ _ _ h => h) (Or.inl ⟨by rfl, ?_⟩) hHeld ?_
          rotate_left
          · intro wS hSw
            go_simp
            all_goals with_reducible rfl
          simp only [Act.put, List.setIfInBounds_toArray, List.set_cons_zero, List.set_cons_succ]
          refine wpAnyT_take (i := 23) (v := ?_) [] (oi := { dst := some 43, op := Go.Op.load 25 (Go.Operand.tmp 3), type := 25, pos := "law.go:37", after := #[{ on := 22, ground := Go.Ground.guard }], guard := some (22, true) }) rfl (by kernel_rfl) (by kernel_rfl) (by kernel_rfl) (by kernel_rfl) (fun _ _ _ h => h) (Or.inl ⟨by rfl, ?_⟩) hHeld ?_
          rotate_left
          · intro wS hSw
            obtain ⟨⟨B0, B1⟩, -, -⟩ := hSw
            obtain ⟨y00, y01, y02, y03, y04, -⟩ := B0.c
            obtain ⟨y10, y11, y12, y13, y14, -⟩ := B1.c
            go_simp
            all_goals with_reducible rfl
          simp only [Act.put, List.setIfInBounds_toArray, List.set_cons_zero, List.set_cons_succ]
          refine wpAnyT_take (i := 24) (v := ?_) [] (oi := { dst := some 44, op := Go.Op.load 25 (Go.Operand.tmp 1), type := 25, pos := "law.go:37", after := #[{ on := 22, ground := Go.Ground.guard }], guard := some (22, true) }) rfl (by kernel_rfl) (by kernel_rfl) (by kernel_rfl) (by kernel_rfl) (fun _ _ _ h => h) (Or.inl ⟨by rfl, ?_⟩) hHeld ?_
          rotate_left
          · intro wS hSw
            obtain ⟨⟨B0, B1⟩, -, -⟩ := hSw
            obtain ⟨y00, y01, y02, y03, y04, -⟩ := B0.c
            obtain ⟨y10, y11, y12, y13, y14, -⟩ := B1.c
            go_simp
            all_goals with_reducible rfl
          simp only [Act.put, List.setIfInBounds_toArray, List.set_cons_zero, List.set_cons_succ]
          refine wpAnyT_ready (rs := [25]) (by kernel_rfl) (by simp) ?_
          refine AllReadyT.cons (i := 25) (o := { dst := some 45, op := Go.Op.call { callee := Go.Callee.value (Go.Operand.func 11), args := #[Go.Operand.tmp 43, Go.Operand.tmp 44], argTypes := #[25, 25] }, type := 4, pos := "law.go:37", after := #[{ on := 23, ground := Go.Ground.data }, { on := 24, ground := Go.Ground.data }, { on := 22, ground := Go.Ground.chain }, { on := 22, ground := Go.Ground.guard }], guard := some (22, true) }) rfl (fun K hK => ?_) ?_
          · go_simp
            refine (rsame_is _ (fun _ => True) (fun _ => True) t t _ _ (by exact hHeld.2.1.2) (by exact hHeld.2.1.1)).mono ?_
            rintro e w25q ⟨rfl, hb25⟩
            refine hK.out _ _ (⟨⟨box_bel hb25 hHeld.1.1, box_bel hb25 hHeld.1.2⟩, ⟨hHeld.2.1.1.bel hb25, hHeld.2.1.2.bel hb25⟩, bel_trans hHeld.2.2 hb25⟩) (fun hHeld2 => ?_)
            clear hb25
            clear hK K
            replace hHeld := hHeld2
            clear hHeld2
            try simp only [Act.put, List.setIfInBounds_toArray, List.set_cons_zero, List.set_cons_succ]
            refine wpAnyT_take (i := 26) (v := ?_) [] (oi := { dst := some 46, op := Go.Op.pick (Go.Operand.tmp 42) (Go.Operand.tmp 45) (Go.Operand.const (Go.Value.bool false)), type := 4, pos := "law.go:37", after := #[{ on := 22, ground := Go.Ground.data }, { on := 25, ground := Go.Ground.data }], guard := none }) rfl (by kernel_rfl) (by kernel_rfl) (by kernel_rfl) (by kernel_rfl) (fun _ _ _ h => h) (Or.inl ⟨by rfl, ?_⟩) hHeld ?_
            rotate_left
            · intro wS hSw
              go_simp
              all_goals with_reducible rfl
            simp only [Act.put, List.setIfInBounds_toArray, List.set_cons_zero, List.set_cons_succ]
            refine wpAnyT_take (i := 27) (v := ?_) [] (oi := { dst := some 47, op := Go.Op.move (Go.Operand.tmp 46), type := 4, pos := "law.go:37", after := #[{ on := 26, ground := Go.Ground.data }, { on := 25, ground := Go.Ground.chain }], guard := none }) rfl (by kernel_rfl) (by kernel_rfl) (by kernel_rfl) (by kernel_rfl) (fun _ _ _ h => h) (Or.inl ⟨by rfl, ?_⟩) hHeld ?_
            rotate_left
            · intro wS hSw
              go_simp
              all_goals with_reducible rfl
            simp only [Act.put, List.setIfInBounds_toArray, List.set_cons_zero, List.set_cons_succ]
            refine wpAnyT_ready (rs := [28]) (by kernel_rfl) (by simp) ?_
            refine AllReadyT.cons (i := 28) (o := { dst := some 48, op := Go.Op.call { callee := Go.Callee.value (Go.Operand.func 12), args := #[], argTypes := #[] }, type := 4, pos := "law.go:37", after := #[{ on := 27, ground := Go.Ground.chain }, { on := 27, ground := Go.Ground.guard }], guard := some (27, true) }) rfl (fun K hK => ?_) ?_
            · go_simp
              refine (lreads_at _ (by exact HG.out.grown (gb_below (r := none) hHeld.2.2) (by simp))).mono ?_
              rintro e w28q ⟨rfl, hb28⟩
              refine hK.out _ _ (⟨⟨box_bel hb28 hHeld.1.1, box_bel hb28 hHeld.1.2⟩, ⟨hHeld.2.1.1.bel hb28, hHeld.2.1.2.bel hb28⟩, bel_trans hHeld.2.2 hb28⟩) (fun hHeld2 => ?_)
              clear hb28
              clear hK K
              replace hHeld := hHeld2
              clear hHeld2
              try simp only [Act.put, List.setIfInBounds_toArray, List.set_cons_zero, List.set_cons_succ]
              refine wpAnyT_take (i := 29) (v := ?_) [] (oi := { dst := some 49, op := Go.Op.pick (Go.Operand.tmp 47) (Go.Operand.tmp 48) (Go.Operand.const (Go.Value.bool false)), type := 4, pos := "law.go:37", after := #[{ on := 27, ground := Go.Ground.data }, { on := 28, ground := Go.Ground.data }], guard := none }) rfl (by kernel_rfl) (by kernel_rfl) (by kernel_rfl) (by kernel_rfl) (fun _ _ _ h => h) (Or.inl ⟨by rfl, ?_⟩) hHeld ?_
              rotate_left
              · intro wS hSw
                go_simp
                all_goals with_reducible rfl
              simp only [Act.put, List.setIfInBounds_toArray, List.set_cons_zero, List.set_cons_succ]
              refine wpAnyT_take (i := 30) (v := ?_) [] (oi := { dst := some 2, op := Go.Op.assign (Go.Operand.tmp 49), type := 4, pos := "law.go:37", after := #[{ on := 29, ground := Go.Ground.data }, { on := 28, ground := Go.Ground.chain }, { on := 0, ground := Go.Ground.phase }, { on := 1, ground := Go.Ground.phase }, { on := 2, ground := Go.Ground.phase }, { on := 3, ground := Go.Ground.phase }, { on := 4, ground := Go.Ground.phase }, { on := 5, ground := Go.Ground.phase }, { on := 6, ground := Go.Ground.phase }, { on := 7, ground := Go.Ground.phase }, { on := 8, ground := Go.Ground.phase }, { on := 9, ground := Go.Ground.phase }, { on := 10, ground := Go.Ground.phase }, { on := 11, ground := Go.Ground.phase }, { on := 12, ground := Go.Ground.phase }, { on := 13, ground := Go.Ground.phase }, { on := 14, ground := Go.Ground.phase }, { on := 15, ground := Go.Ground.phase }, { on := 16, ground := Go.Ground.phase }, { on := 17, ground := Go.Ground.phase }, { on := 18, ground := Go.Ground.phase }, { on := 19, ground := Go.Ground.phase }, { on := 20, ground := Go.Ground.phase }, { on := 21, ground := Go.Ground.phase }, { on := 22, ground := Go.Ground.phase }, { on := 23, ground := Go.Ground.phase }, { on := 24, ground := Go.Ground.phase }, { on := 25, ground := Go.Ground.phase }, { on := 26, ground := Go.Ground.phase }, { on := 27, ground := Go.Ground.phase }, { on := 28, ground := Go.Ground.phase }, { on := 29, ground := Go.Ground.phase }], guard := none }) rfl (by kernel_rfl) (by kernel_rfl) (by kernel_rfl) (by kernel_rfl) (fun _ _ _ h => h) (Or.inl ⟨by rfl, ?_⟩) hHeld ?_
              rotate_left
              · intro wS hSw
                go_simp
                all_goals with_reducible rfl
              simp only [Act.put, List.setIfInBounds_toArray, List.set_cons_zero, List.set_cons_succ]
              refine wpAnyT_done (by kernel_rfl) ?_ _
              go_wp2_with fail
              go_ret
              exact ⟨rfl, hHeld.2.2⟩
            exact AllReadyT.nil
          exact AllReadyT.nil
        exact AllReadyT.nil
      exact AllReadyT.nil
    exact AllReadyT.nil
  exact AllReadyT.nil
end Go.Proofs.YtkboplcffailoaaGreatDoor

set_option linter.unusedSimpArgs false
set_option linter.unusedVariables false
namespace Go.Proofs.YtkboplcffailoaaGreatDoor.jsonPrints
open Go.ChangeShapes Go.WideShapes Go.ChangeAt Go.RowKit
open Go.ChangeMaps (open_string shut_string)

set_option maxRecDepth 100000 in
theorem contract (H : Type) (enc : TypeId × Value → H) (W : World) (base : Nat) (args : Array Value) (ds gs : List (DataW H)) (before : List MemPlace)
    (hval : ∀ (j : Nat) t v, Tryz.f3.params[j]? = some t → args[j]? = some v → Value.okWide Tryz.prog W .any base t v)
    (hW : DataW.Whole enc Tryz.prog Tryz.f3.params.toList Rows.jsonPrintsSpec.vars false W args.toList ds gs before)
    (hk : Rows.uptoSmall H (ds ++ gs) = true) (hZ : (DataW.weightsEach Tryz.prog (Tryz.f3.params.toList ++ (OpenSpec.ofChange Rows.jsonPrintsSpec).bare.plain.varTypes Tryz.prog) (ds ++ gs)).all (· ≤ reachBytes) = true) (hL : laidMet Tryz.prog laidAll W) :
    Calls Tryz.prog 3 args W fun e W' => ∃ v, e = .returned v ∧ Rows.jsonPrintsSpec.post enc Tryz.prog Tryz.f3 false true false false W args v W' := by
  have hW' := hW
  obtain ⟨p, q, hA0, hV, rfl, hfz, hnd⟩ := hW
  have hA : DataW.TrodAll enc Tryz.prog W 0 (fun _ => true) true Tryz.f3.params.toList args.toList ds p := hA0
  rw [Tryz.params3] at hA hval
  obtain ⟨v0, vs0, d0, ds0, p0, q0, hargs0, rfl, rfl, h0, r0⟩ := trodAll_cons hA
  obtain ⟨rfl, rfl, rfl⟩ := trodAll_nil r0
  have hargs : args = #[v0] := by
    obtain ⟨l⟩ := args
    exact congrArg Array.mk hargs0
  subst hargs
  obtain ⟨rfl, rfl⟩ := trodVars_none hV
  have k0 : Value.okWide Tryz.prog W .any base 25 v0 := hval 0 _ _ (by simp) (by simp)
  obtain ⟨f0, t0, hv0, hz0⟩ := arg_bulk k0 h0
  clear hA0
  simp only [List.append_nil] at hW'
  have hb := bulk_bound hk
  simp only [List.append_nil, Rows.uptoBulkAll] at hb
  have b0 : siz t0 ≤ 2000000 := by omega
  have walk := jsonPrints_walk W (fun _ => True) f0 t0 v0 hv0 b0 (glob_of hL)
  refine walk.mono fun e W' ⟨he, hg⟩ => ?_
  subst he
  have ef : Rows.jsonPrintsSpec.fn H ([d0] ++ []) = { results := [.lit (.bool true)], args := [d0] } := rfl
  refine ⟨_, rfl, _, _, _, [], (p0 ++ []), [], hW', ?_, ?_, ?_, hg.frame _, fun h => by cases h⟩
  · rw [ef]; exact trodAll_mk1 (shut_bool Tryz.underlying4 _)
  · rw [ef, Tryz.params3]; exact trodAll_cons_mk (Below.trod laidOut readableV rowedV h0 hg (trod_old h0)) (trodAll_mk0)
  · rw [ef]; rfl

set_option maxRecDepth 100000 in
theorem reads (os : Os) {H : Type} (enc : TypeId × Value → H) : ∃ places, DataW.whole enc Tryz.prog ((laidWorld os).forCall (fun _ _ => 0) ⟨#[], #[.agg #[.int .i64 0, .int .i64 0, .string ⟨#[]⟩, .slice none 0 0, .slice none 0 0]], []⟩).memory Tryz.f3.params.toList Rows.jsonPrintsSpec.vars false #[Value.agg #[.int .i64 0, .int .i64 0, .string ⟨#[]⟩, .slice none 0 0, .slice none 0 0]].toList 8 = some ([.agg [.lit (.int .i64 0), .lit (.int .i64 0), .lit (.string []), .nil, .nil]], [], places) :=
  ⟨[], by kernel_rfl⟩

set_option maxRecDepth 100000 in
theorem lifted (os : Os) (started : os.Started) (H : Type) (enc : TypeId × Value → H) (F : Stop.Interp) :
    ReturnsInHanded {} Tryz.checked os 3 .any ((Rows.OpenSpec.upto Rows.jsonPrintsSpec).preRow enc Tryz.prog Tryz.f3 Rows.jsonPrintsUptoRow.domain false Rows.jsonPrintsUptoRow.laid) (((Rows.OpenSpec.upto Rows.jsonPrintsSpec).at F).post enc Tryz.prog Tryz.f3 false true false false) := by
  obtain ⟨places, hx⟩ := reads os enc
  refine returnsInHanded_of_row (C := Tryz.checked) (s := Rows.OpenSpec.upto Rows.jsonPrintsSpec) own started (by kernel_rfl) Tryz.func3
    (witness_row_at (enc := enc) (C := Tryz.checked) false (laidWorld os) #[.agg #[.int .i64 0, .int .i64 0, .string ⟨#[]⟩, .slice none 0 0, .slice none 0 0]] rfl (by kernel_rfl) (by kernel_rfl) (by kernel_rfl)
      (OpenSpec.preRow_of_cond 8 hx (by kernel_rfl) (fun k hk => by cases hk; kernel_rfl) (by kernel_rfl) (laid_met os _))) ?_
  intro W base args ds gs before hval hW _ hc hZ hL _ _
  exact contract H enc W base args ds gs before hval hW (hc _ rfl) hZ hL

theorem said : Rows.JsonPrintsUptoSaid :=
  OpenClaim.holds_of_cond 3 Tryz.f3 rfl rfl rfl rfl rfl rfl rfl ⟨rfl, rfl, rfl, rfl, rfl⟩ rfl rfl rfl rfl rfl (by kernel_rfl) Tryz.func3 (by kernel_rfl)
    (of_decide_eq_true (by kernel_rfl)) (by unfold Func.isWrapper; first | (rw [if_pos (by decide +kernel)]; kernel_rfl) | (rw [if_neg (by decide +kernel)]; exact ⟨rfl, rfl⟩))
    (fun os started H enc _ F => by rw [OpenClaim.pre_eq_preRow]; exact lifted os started H enc F)

theorem plain (f : FuncId) (fn : Func) (hf : Tryz.pinned.checked.prog.funcNamed "stairwell/stairwelllaw.JsonPrints" = some f) (hfn : Tryz.pinned.checked.prog.funcs[f]? = some fn) :
    true = Tryz.pinned.checked.prog.looks [] ∧ ∀ (j : Nat) t, fn.params[j]? = some t → Tryz.pinned.checked.prog.wantsStandIn t = false := by
  obtain rfl : f = 3 := Option.some.inj ((show Tryz.prog.funcNamed "stairwell/stairwelllaw.JsonPrints" = some 3 by kernel_rfl).symm.trans hf) |>.symm
  obtain rfl : fn = Tryz.f3 := (Option.some.inj (Tryz.func3.symm.trans hfn)).symm
  refine ⟨by kernel_rfl, fun j t ht => ?_⟩
  rw [Tryz.params3] at ht
  have hm := Array.mem_of_getElem? ht
  simp only [Array.mem_def, List.mem_cons, List.not_mem_nil, or_false] at hm
  subst hm
  exact (show Tryz.prog.wantsStandIn 25 = false by kernel_rfl)

theorem card : Rows.JsonPrintsUptoCardSaid :=
  Claim7.holds_tied_plain_at .later [] _ _ _ _ said (fun _ h => by cases h) (by kernel_rfl) (fun _ h => by cases h) jsonPrintsUpto_row_tie rfl ⟨rfl, rfl⟩ (by kernel_rfl) rfl plain (by kernel_rfl)
end Go.Proofs.YtkboplcffailoaaGreatDoor.jsonPrints

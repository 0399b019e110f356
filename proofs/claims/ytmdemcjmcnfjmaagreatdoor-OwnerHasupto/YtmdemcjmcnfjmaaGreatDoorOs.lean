/- What eachPath of package owner does, whatever is handed to it. -/
import Derived.Test.YtmdemcjmcnfjmaaGreatDoorOw
import Derived.Shelf.Abstract
set_option linter.unusedSimpArgs false
set_option linter.unusedVariables false
namespace Go.Proofs.YtmdemcjmcnfjmaaGreatDoor
open Go.RowKit

def allOf (l : List Own) : List (List UInt8 × List UInt8) := l.flatMap fun o => o.paths.map fun p => (o.name, p)
theorem allOf_step {l : List Own} {k : Nat} (hk : k < l.length) : allOf (l.take (k + 1)) = allOf (l.take k) ++ l[k].paths.map fun p => (l[k].name, p) := by
  unfold allOf
  rw [List.take_succ_eq_append_getElem hk, List.flatMap_append]; simp
theorem allOf_pre {l : List Own} {k j : Nat} (hk : k < l.length) (hj : j < l[k].paths.length) : allOf (l.take k) ++ (l[k].paths.take j).map (fun p => (l[k].name, p)) ++ [(l[k].name, l[k].paths[j])] <+: allOf l := by
  have e1 : allOf l = allOf (l.take (k + 1)) ++ allOf (l.drop (k + 1)) := by
    unfold allOf
    rw [← List.flatMap_append, List.take_append_drop]
  have e3 : l[k].paths = l[k].paths.take j ++ [l[k].paths[j]] ++ l[k].paths.drop (j + 1) := by rw [← List.take_succ_eq_append_getElem hj, List.take_append_drop]
  have e4 := congrArg (List.map fun p => (l[k].name, p)) e3
  rw [List.map_append, List.map_append, List.map_cons, List.map_nil] at e4
  refine ⟨(l[k].paths.drop (j + 1)).map (fun p => (l[k].name, p)) ++ allOf (l.drop (k + 1)), ?_⟩
  rw [e1, allOf_step hk, e4]
  simp only [List.append_assoc]
theorem allOf_mem {l : List Own} {n p : List UInt8} (h : (n, p) ∈ allOf l) : ∃ o ∈ l, o.name = n ∧ p ∈ o.paths := by
  unfold allOf at h
  rw [List.mem_flatMap] at h
  obtain ⟨o, ho, h⟩ := h
  rw [List.mem_map] at h
  obtain ⟨q, hq, e⟩ := h
  cases e
  exact ⟨o, ho, rfl, hq⟩
/- What the function that is handed over does: I tells what was seen, and of which blocks it keeps off. -/
structure SeesP (w0 : World) (g : Nat) (lb : Array Value) (l : List Own) (ok : Nat → Prop) (v : Value) (I : List (List UInt8 × List UInt8) → (Nat → Prop) → World → Prop) : Prop where
  owns : OwnsAre w0 ok l v
  cells : ∀ d F W, I d F W → ∀ a x, ok a.block → w0.cell? a = some x → W.cell? a = some x
  alloc : ∀ d F W o, I d F W → I d (fun k => F k ∨ k = W.heap.size) (W.alloc o)
  low : ∀ d (F G : Nat → Prop) W, I d F W → (∀ k, G k → F k) → I d G W
  step : ∀ d F W n p, I d F W → d ++ [(n, p)] <+: allOf l → Calls Tryz.prog g (#[.string ⟨n.toArray⟩, .string ⟨p.toArray⟩] ++ lb) W fun e w' => e = .returned (.tuple #[]) ∧ I (d ++ [(n, p)]) F w' ∧ W.heap.size ≤ w'.heap.size ∧ ∀ k, F k → k < W.heap.size → w'.heap[k]? = W.heap[k]?

theorem owner_cells {w : World} {ok : Nat → Prop} {xs : List Own} {a : Option Addr} {n c k : Nat} (h : OwnsAre w ok xs (.slice a n c)) (hk : k < xs.length) :
    ∃ b off pa pc, a = some ⟨b, off, none⟩ ∧ ok b ∧ xs.length ≤ c ∧ c ≤ 9223372036854775807 ∧ w.cell? ⟨b, off + k * 2, none⟩ = some (.string ⟨xs[k].name.toArray⟩) ∧ w.cell? ⟨b, off + k * 2 + 1, none⟩ = some (.slice pa xs[k].paths.length pc) ∧ StrsAre w ok xs[k].paths (.slice pa xs[k].paths.length pc) := by
  rcases h.2 with ⟨e, _⟩ | ⟨b, off, c', e, h1, h2, h3⟩
  · rw [e] at hk; simp at hk
  · simp only [Value.slice.injEq] at e
    obtain ⟨rfl, -, rfl⟩ := e
    obtain ⟨a, n, c', g1, g2, g3, g4, g5⟩ := h3 k xs[k] (List.getElem?_eq_getElem hk)
    obtain ⟨a9, c9, e9⟩ := g5.form
    simp only [Value.slice.injEq] at e9
    obtain ⟨rfl, rfl, rfl⟩ := e9
    exact ⟨b, off, a, c', rfl, g2, h1, h2, g3, g4, g5⟩
theorem strs_cellB {w : World} {ok : Nat → Prop} {xs : List (List UInt8)} {a : Option Addr} {n c k : Nat} (h : StrsAre w ok xs (.slice a n c)) (hk : k < xs.length) : ∃ b off, a = some ⟨b, off, none⟩ ∧ ok b ∧ xs.length ≤ c ∧ c ≤ 9223372036854775807 ∧ w.cell? ⟨b, off + k, none⟩ = some (.string ⟨xs[k].toArray⟩) := by
  rcases h.2 with ⟨e, _⟩ | ⟨b, off, c', e, h1, h2, h3⟩
  · rw [e] at hk; simp at hk
  · simp only [Value.slice.injEq] at e
    obtain ⟨rfl, -, rfl⟩ := e
    obtain ⟨g1, g2, g3⟩ := h3 k xs[k] (List.getElem?_eq_getElem hk)
    exact ⟨b, off, rfl, g2, h1, h2, g3⟩
set_option maxRecDepth 100000 in
set_option maxHeartbeats 4000000 in
theorem eachPath_at (w0 w : World) (ok : Nat → Prop) (l : List Own) (v : Value) (g : Nat) (lb : Array Value) (I : List (List UInt8 × List UInt8) → (Nat → Prop) → World → Prop) (F : Nat → Prop) (eg : ∀ args w, (callFunc g args).run Tryz.prog w = .ok (.enter g args) w) (hs : SeesP w0 g lb l ok v I) (h0 : I [] F w) :
    Calls Tryz.prog 48 #[v, .func (.func g) #[] lb] w fun e w' => e = .returned (.tuple #[]) ∧ I (allOf l) F w' := by
  have h := hs.owns
  obtain ⟨a, c, rfl⟩ := h.form
  have HS := hidI hs
  have ll := h.1
  unfold maxLen at ll
  have H0 := hidI h0
  clear hs h h0
  go_enter Tryz.func48, Tryz.ntmps48
  go_wp2_with fail
  go_loopg [10] l.length (fun gk i wr => ∃ k : Nat, k ≤ l.length ∧ gk = l.length - k ∧ i = .int .i64 k ∧ Hid (I (allOf (l.take k)) F wr))
  case atStart => exact ⟨0, Nat.zero_le _, rfl, rfl, H0⟩
  case round =>
    obtain ⟨k, hk, hgk, rfl, IK⟩ := hrel
    have GK := hidI hgk
    clear hgk
    obtain ⟨wo, hwo⟩ : ∃ wo, wo = wr := ⟨wr, rfl⟩
    subst hwo
    by_cases hlt : k < l.length
    · obtain ⟨b, off, pa, pc, rfl, okb, j1, j2, k1, k2, k3⟩ := owner_cells HS.out.owns hlt
      replace k1 := HS.out.cells _ _ _ IK.out _ _ okb k1
      replace k2 := HS.out.cells _ _ _ IK.out _ _ okb k2
      have w2 : (k : Int) < (l.length : Int) := by omega
      have w3 : (0 : Int) ≤ (k : Int) := by omega
      have AS := hidI (allOf_step hlt)
      have PRE : Hid (∀ j (hj : j < l[k].paths.length), allOf (l.take k) ++ (l[k].paths.take j).map (fun p => (l[k].name, p)) ++ [(l[k].name, l[k].paths[j])] <+: allOf l) := hidI (fun j hj => allOf_pre hlt hj)
      have pl := k3.1
      unfold maxLen at pl
      obtain ⟨o, ho⟩ : ∃ o, l[k] = o := ⟨_, rfl⟩
      rw [ho] at k1 k2 k3 AS pl
      have PRE2 : Hid (∀ j (hj : j < o.paths.length), allOf (l.take k) ++ (o.paths.take j).map (fun p => (o.name, p)) ++ [(o.name, o.paths[j])] <+: allOf l) := hidI (by subst ho; exact PRE.out)
      clear PRE
      clear ho
      obtain ⟨W5, hW5⟩ : ∃ W, W = wo.alloc (.cells #[.string ⟨o.name.toArray⟩, .slice pa o.paths.length pc] 41) := ⟨_, rfl⟩
      have BX : Hid (W5.heap[wo.heap.size]? = some (.cells #[.string ⟨o.name.toArray⟩, .slice pa o.paths.length pc] 41)) := hidI (by rw [hW5]; exact heap_alloc_new _ _)
      have I5 : Hid (I (allOf (l.take k)) (fun k => F k ∨ k = wo.heap.size) W5) := hidI (by rw [hW5]; exact HS.out.alloc _ _ _ _ IK.out)
      have HW5 := hidI hW5
      clear hW5
      have K3 := hidI k3
      go_upto_region 3 with fail
      rw [← HW5.out]
      clear k1 k2 k3
      obtain ⟨q0, q1⟩ := box2 BX.out
      go_upto_region 4 with fail
      clear q0 q1
      go_loopg [17] o.paths.length (fun gj i wr => ∃ j : Nat, j ≤ o.paths.length ∧ gj = o.paths.length - j ∧ i = .int .i64 j ∧ Hid (I (allOf (l.take k) ++ (o.paths.take j).map fun p => (o.name, p)) (fun k => F k ∨ k = wo.heap.size) wr ∧ wr.heap[wo.heap.size]? = some (.cells #[.string ⟨o.name.toArray⟩, .slice pa o.paths.length pc] 41)))
      case atStart => exact ⟨0, Nat.zero_le _, rfl, rfl, hidI ⟨by simpa using I5.out, BX.out⟩⟩
      case round =>
        obtain ⟨j, hj, hgj, rfl, J⟩ := hrel
        have GJ := hidI hgj
        clear hgj
        by_cases hlj : j < o.paths.length
        · obtain ⟨pb, po, rfl, okp, m1, m2, m3⟩ := strs_cellB K3.out hlj
          replace m3 := HS.out.cells _ _ _ J.out.1 _ _ okp m3
          obtain ⟨q0, q1⟩ := box2 J.out.2
          have x2 : (j : Int) < (o.paths.length : Int) := by omega
          have x3 : (0 : Int) ≤ (j : Int) := by omega
          have CALL := hidI (HS.out.step _ _ wr o.name o.paths[j] J.out.1 (PRE2.out j hlj))
          have BL : Hid (wo.heap.size < wr.heap.size) := hidI (Array.getElem?_eq_some_iff.1 J.out.2).1
          have TK : Hid ((o.paths.take (j + 1)).map (fun p => (o.name, p)) = (o.paths.take j).map (fun p => (o.name, p)) ++ [(o.name, o.paths[j])]) := hidI (by rw [List.take_succ_eq_append_getElem hlj, List.map_append]; rfl)
          go_wp2_with (go_at_fn g; refine CALL.out.mono ?_; rintro e w7 ⟨rfl, hi7, hs7, hk7⟩; have I7 := hidI hi7; have K7 := hidI (hk7 wo.heap.size (.inr rfl) BL.out); clear hi7 hs7 hk7)
          go_roundg (o.paths.length - (j + 1))
          case measure => rw [GJ.out]; omega
          case rel => exact ⟨j + 1, hlj, rfl, by go_num, hidI ⟨by rw [TK.out, ← List.append_assoc]; exact I7.out, K7.out.trans J.out.2⟩⟩
        · have y1 : ¬ (j : Int) < (o.paths.length : Int) := by omega
          have IE : Hid (I (allOf (l.take (k + 1))) F wr) := hidI (by
            rw [AS.out]
            have := J.out.1
            rw [show o.paths.take j = o.paths from List.take_of_length_le (by omega)] at this
            exact HS.out.low _ _ _ _ this fun k hk => Or.inl hk)
          clear J
          go_wp2_with fail
          go_roundg (l.length - (k + 1))
          case measure => rw [GK.out]; omega
          case rel => exact ⟨k + 1, hlt, rfl, by go_num, IE⟩
    · have d1 : ¬ (k : Int) < (l.length : Int) := by omega
      have IE : Hid (I (allOf l) F wo) := hidI (by have := IK.out; rwa [List.take_of_length_le (by omega)] at this)
      clear IK
      go_wp2_with fail
      go_end0
      exact ⟨rfl, IE.out⟩
end Go.Proofs.YtmdemcjmcnfjmaaGreatDoor

/- Steps, specs, statuses and what Next makes of them, plainly; what the laws of package stage ask. -/
import Derived.Test.YtaaaogiheplbmaaAa
set_option linter.unusedSimpArgs false
set_option linter.unusedVariables false
namespace Go.Proofs.Ytaaaogiheplbmaa
open Go.RowKit

structure Stp where
  w : Int
  p : Int
structure Sta where
  a : List UInt8
  c : List UInt8
  ph : Int
  st : Int
  we : Int
  si : Int

def isT (n : Int) : Bool := decide (0 ≤ n ∧ n ≤ 1099511627776)
def isW (n : Int) : Bool := decide (0 ≤ n ∧ n ≤ 100)
def stepOk (x : Stp) : Bool := if x.w = -1 then isT x.p else isW x.w && decide (x.p = 0)
def specOk (g : List UInt8) (l : List Stp) : Bool := decide (g ≠ [] ∧ g.length ≤ 60 ∧ l.length ≤ 8) && l.all stepOk
def healthyS (g : List UInt8) : Sta := ⟨g, g, 1, 0, 100, 0⟩
def begunS (a c : List UInt8) : Sta := ⟨a, c, 2, 0, 0, 0⟩
def abortedS (a c : List UInt8) : Sta := ⟨a, c, 4, 0, 0, 0⟩
def underOk (s : Sta) : Bool := decide (s.a ≠ s.c ∧ 0 ≤ s.st ∧ s.st ≤ 8) && isW s.we
def staOk (s : Sta) : Bool :=
  if s.a = [] ∨ s.c = [] then false
  else if s.ph = 1 then decide (s.c = s.a ∧ s.st = 0 ∧ s.we = 100 ∧ s.si = 0)
  else if s.ph = 4 then decide (s.a ≠ s.c ∧ s.st = 0 ∧ s.we = 0 ∧ s.si = 0)
  else if s.ph = 2 then underOk s && decide (s.si = 0)
  else if s.ph = 3 then underOk s && isT s.si
  else false

def onS (s : Sta) : Sta := ⟨s.a, s.c, 2, s.st + 1, s.we, 0⟩
def toS (s : Sta) (n : Int) : Sta := ⟨s.a, s.c, s.ph, s.st, n, s.si⟩
def waitS (s : Sta) (now : Int) : Sta := ⟨s.a, s.c, 3, s.st, s.we, now⟩
def rollF (now : Int) (re : Bool) : List Stp → Sta → Sta
  | [], s => healthyS s.c
  | x :: l, s =>
    if x.w ≠ -1 then rollF now re l (onS (toS s x.w))
    else if s.ph ≠ 3 then waitS s now
    else if re = false ∧ (x.p = 0 ∨ now - s.si < x.p) then s
    else rollF now re l (onS s)
/- What comes, ahead of all else. -/
def comesS (g : List UInt8) (s : Sta) : Sta := if g = s.c then s else begunS s.a g
def nextS (l : List Stp) (s : Sta) (now order : Int) : Sta :=
  if s.ph = 1 ∨ s.ph = 4 then s else if order = 2 then healthyS s.c else if order = 3 then abortedS s.a s.c else rollF now (decide (order = 1)) (l.drop s.st.toNat) s
def nextF (g : List UInt8) (l : List Stp) (s : Sta) (now order : Int) : Sta × Int :=
  if (specOk g l && staOk s) = false then (s, 1)
  else if isT now = false then (s, 8)
  else if order < 0 ∨ 3 < order then (s, 9)
  else if g ≠ s.c ∧ g = s.a then (healthyS s.a, 0)
  else (nextS l (comesS g s) now order, 0)

theorem specOk_iff {g : List UInt8} {l : List Stp} : specOk g l = true ↔ (g ≠ [] ∧ g.length ≤ 60 ∧ l.length ≤ 8) ∧ ∀ x ∈ l, stepOk x = true := by
  simp [specOk, List.all_eq_true]
theorem isT_iff {n : Int} : isT n = true ↔ 0 ≤ n ∧ n ≤ 1099511627776 := by simp [isT]
theorem isW_iff {n : Int} : isW n = true ↔ 0 ≤ n ∧ n ≤ 100 := by simp [isW]

/- A status on its way. -/
def Way (s : Sta) : Prop := s.a ≠ [] ∧ s.c ≠ [] ∧ s.a ≠ s.c ∧ 0 ≤ s.st ∧ s.st ≤ 8 ∧ 0 ≤ s.we ∧ s.we ≤ 100 ∧ (s.ph = 2 ∧ s.si = 0 ∨ s.ph = 3 ∧ 0 ≤ s.si ∧ s.si ≤ 1099511627776)
theorem Way.ok {s : Sta} (h : Way s) : staOk s = true := by
  obtain ⟨h1, h2, h3, h4, h5, h6, h7, h8⟩ := h
  rcases h8 with ⟨e, e'⟩ | ⟨e, e', e''⟩ <;> simp [staOk, underOk, isW, isT, *]
theorem ok_cases {s : Sta} (h : staOk s = true) : (s = healthyS s.a ∧ s.a ≠ []) ∨ (s = abortedS s.a s.c ∧ s.a ≠ [] ∧ s.c ≠ [] ∧ s.a ≠ s.c) ∨ Way s := by
  obtain ⟨a, c, ph, st, we, si⟩ := s
  simp only [staOk] at h
  split at h
  · cases h
  rename_i h0
  rw [not_or] at h0
  split at h
  · rename_i e; simp at h; obtain ⟨e1, e2, e3, e4⟩ := h; subst e e1 e2 e3 e4; exact .inl ⟨rfl, h0.1⟩
  split at h
  · rename_i e; simp at h; obtain ⟨e1, e2, e3, e4⟩ := h; subst e e2 e3 e4; exact .inr (.inl ⟨rfl, h0.1, h0.2, e1⟩)
  split at h
  · rename_i e; simp [underOk, isW] at h; exact .inr (.inr ⟨h0.1, h0.2, h.1.1.1, h.1.1.2.1, h.1.1.2.2, h.1.2.1, h.1.2.2, .inl ⟨e, h.2⟩⟩)
  split at h
  · rename_i e; simp [underOk, isW, isT] at h; exact .inr (.inr ⟨h0.1, h0.2, h.1.1.1, h.1.1.2.1, h.1.1.2.2, h.1.2.1, h.1.2.2, .inr ⟨e, h.2⟩⟩)
  · cases h
theorem healthy_ok {g : List UInt8} (h : g ≠ []) : staOk (healthyS g) = true := by simp [staOk, healthyS, h]
theorem aborted_ok {a c : List UInt8} (h : a ≠ []) (h' : c ≠ []) (e : a ≠ c) : staOk (abortedS a c) = true := by simp [staOk, abortedS, h, h', e]
theorem begun_way {a c : List UInt8} (h : a ≠ []) (h' : c ≠ []) (e : a ≠ c) : Way (begunS a c) := ⟨h, h', e, by simp [begunS], by simp [begunS], by simp [begunS], by simp [begunS], .inl ⟨rfl, rfl⟩⟩
theorem Way.on {s : Sta} (h : Way s) (h8 : s.st < 8) : Way (onS s) := by
  obtain ⟨h1, h2, h3, h4, h5, h6, h7, _⟩ := h
  exact ⟨h1, h2, h3, by simp [onS]; omega, by simp [onS]; omega, h6, h7, .inl ⟨rfl, rfl⟩⟩
theorem Way.to {s : Sta} (h : Way s) {n : Int} (hn : isW n = true) : Way (toS s n) := by
  obtain ⟨h1, h2, h3, h4, h5, h6, h7, h8⟩ := h
  exact ⟨h1, h2, h3, h4, h5, (isW_iff.1 hn).1, (isW_iff.1 hn).2, h8⟩
theorem Way.wait {s : Sta} (h : Way s) {now : Int} (hn : isT now = true) : Way (waitS s now) := by
  obtain ⟨h1, h2, h3, h4, h5, h6, h7, h8⟩ := h
  exact ⟨h1, h2, h3, h4, h5, h6, h7, .inr ⟨rfl, isT_iff.1 hn⟩⟩
theorem step_w {x : Stp} (h : stepOk x = true) (hw : x.w ≠ -1) : isW x.w = true := by
  simp [stepOk, hw] at h; exact h.1

/- What rolling on makes: all is out, or it waits at a pause. -/
def Waits (now : Int) (re : Bool) (l : List Stp) (s r : Sta) : Prop :=
  Way r ∧ r.a = s.a ∧ r.c = s.c ∧ r.ph = 3 ∧ s.st ≤ r.st ∧ (r.we = s.we ∨ ∃ x ∈ l, r.we = x.w) ∧
    ∃ x m, l.drop (r.st - s.st).toNat = x :: m ∧ x.w = -1 ∧ (r.si = now ∧ (s.ph ≠ 3 ∨ s.st < r.st) ∨ r = s ∧ re = false ∧ (x.p = 0 ∨ now - r.si < x.p))
theorem roll_is (now : Int) (re : Bool) (hT : isT now = true) : ∀ (l : List Stp) (s : Sta), (∀ x ∈ l, stepOk x = true) → Way s → s.st + l.length ≤ 8 → rollF now re l s = healthyS s.c ∨ Waits now re l s (rollF now re l s)
  | [], s, _, _, _ => .inl rfl
  | x :: l, s, hl, hs, hn => by
    have hx := hl x (by simp)
    have hl' : ∀ y ∈ l, stepOk y = true := fun y hy => hl y (by simp [hy])
    have h8 : s.st < 8 := by simp at hn; omega
    rw [rollF]
    by_cases hw : x.w = -1
    · rw [if_neg (by simp [hw])]
      by_cases hp : s.ph = 3
      · rw [if_neg (by simp [hp])]
        by_cases hr : re = false ∧ (x.p = 0 ∨ now - s.si < x.p)
        · rw [if_pos hr]
          exact .inr ⟨hs, rfl, rfl, hp, Int.le_refl _, .inl rfl, x, l, by simp, hw, .inr ⟨rfl, hr.1, hr.2⟩⟩
        · rw [if_neg hr]
          rcases roll_is now re hT l (onS s) hl' (hs.on h8) (by simp [onS] at hn ⊢; omega) with h | ⟨k1, k2, k3, k4, k5, k6, y, m, k7, k8, k9⟩
          · exact .inl h
          · have k5' : s.st + 1 ≤ (rollF now re l (onS s)).st := k5
            refine .inr ⟨k1, k2, k3, k4, by omega, ?_, y, m, ?_, k8, ?_⟩
            · rcases k6 with h | ⟨z, hz, h⟩
              · exact .inl h
              · exact .inr ⟨z, by simp [hz], h⟩
            · have e : ((rollF now re l (onS s)).st - s.st).toNat = ((rollF now re l (onS s)).st - (onS s).st).toNat + 1 := by simp only [onS] at k5' ⊢; omega
              rw [e]; exact k7
            · rcases k9 with ⟨h, _⟩ | ⟨h, _⟩
              · exact .inl ⟨h, .inr (by omega)⟩
              · rw [h] at k4; simp [onS] at k4
      · rw [if_pos hp]
        exact .inr ⟨hs.wait hT, rfl, rfl, rfl, Int.le_refl _, .inl rfl, x, l, by simp [waitS], hw, .inl ⟨rfl, .inl hp⟩⟩
    · rw [if_pos hw]
      rcases roll_is now re hT l (onS (toS s x.w)) hl' ((hs.to (step_w hx hw)).on h8) (by simp [onS, toS] at hn ⊢; omega) with h | ⟨k1, k2, k3, k4, k5, k6, y, m, k7, k8, k9⟩
      · exact .inl h
      · have k5' : s.st + 1 ≤ (rollF now re l (onS (toS s x.w))).st := k5
        refine .inr ⟨k1, k2, k3, k4, by omega, ?_, y, m, ?_, k8, ?_⟩
        · rcases k6 with h | ⟨z, hz, h⟩
          · exact .inr ⟨x, by simp, h⟩
          · exact .inr ⟨z, by simp [hz], h⟩
        · have e : ((rollF now re l (onS (toS s x.w))).st - s.st).toNat = ((rollF now re l (onS (toS s x.w))).st - (onS (toS s x.w)).st).toNat + 1 := by simp only [onS, toS] at k5' ⊢; omega
          rw [e]; exact k7
        · rcases k9 with ⟨h, _⟩ | ⟨h, _⟩
          · exact .inl ⟨h, .inr (by omega)⟩
          · rw [h] at k4; simp [onS] at k4

theorem roll_any (now : Int) : ∀ (l : List Stp) (s : Sta) (re re' : Bool), s.ph = 2 → rollF now re l s = rollF now re' l s
  | [], s, re, re', _ => rfl
  | x :: l, s, re, re', h => by
    have h3 : s.ph ≠ 3 := by omega
    rw [rollF, rollF]
    by_cases hw : x.w = -1
    · have hw' : ¬ x.w ≠ -1 := fun h => h hw
      simp only [if_neg hw', if_pos h3]
    · have hw' : x.w ≠ -1 := hw
      simp only [if_pos hw']; exact roll_any now l _ re re' rfl

/- What Next makes of good ones: healthy; given up; or it waits at a pause of the spec. -/
def Good4 (g : List UInt8) (l : List Stp) (t : Sta) (now order : Int) (u : Sta) : Prop :=
  u = healthyS g ∨ (u = abortedS u.a u.c ∧ u.a = t.a ∧ u.c = g ∧ u.a ≠ [] ∧ u.c ≠ [] ∧ u.a ≠ u.c ∧ (t = u ∨ order = 3)) ∨
    (Way u ∧ u.a = t.a ∧ u.c = g ∧ u.ph = 3 ∧ (t.c = g → t.st ≤ u.st) ∧ (u.we = 0 ∨ u.we = t.we ∨ ∃ x ∈ l, u.we = x.w) ∧ (order = 0 ∨ order = 1) ∧
      ∃ x m, l.drop u.st.toNat = x :: m ∧ x.w = -1 ∧ (u.si = now ∧ (t.c = g → t.ph = 3 → t.st < u.st) ∨ u = t ∧ order = 0 ∧ (x.p = 0 ∨ now - u.si < x.p)))
theorem next_good {g : List UInt8} {l : List Stp} {t : Sta} {now order : Int} (e : (nextF g l t now order).2 = 0) :
    (specOk g l = true ∧ staOk t = true ∧ isT now = true ∧ 0 ≤ order ∧ order ≤ 3) ∧ Good4 g l t now order (nextF g l t now order).1 := by
  have h1 : (specOk g l && staOk t) = true := by
    cases hh : (specOk g l && staOk t) with
    | true => rfl
    | false => rw [nextF, if_pos hh] at e; cases e
  have h2 : isT now = true := by
    cases hh : isT now with
    | true => rfl
    | false => rw [nextF, if_neg (by simp [h1]), if_pos hh] at e; cases e
  have h3 : ¬ (order < 0 ∨ 3 < order) := by
    intro hh
    rw [nextF, if_neg (by simp [h1]), if_neg (by simp [h2]), if_pos hh] at e; cases e
  rw [Bool.and_eq_true] at h1
  refine ⟨⟨h1.1, h1.2, h2, by omega, by omega⟩, ?_⟩
  rw [nextF, if_neg (by simp [h1]), if_neg (by simp [h2]), if_neg h3]
  obtain ⟨⟨g1, g2, g3⟩, g4⟩ := specOk_iff.1 h1.1
  have main : ∀ s : Sta, Way s → s.c = g → s.a = t.a → (t.c = g → s = t) → (t.c ≠ g → s.ph = 2) → (s.we = 0 ∨ s.we = t.we) → Good4 g l t now order (nextS l s now order) := by
    intro s hs hc ha hst hb hwe
    have hph : ¬ (s.ph = 1 ∨ s.ph = 4) := by obtain ⟨-, -, -, -, -, -, -, k⟩ := hs; omega
    rw [nextS, if_neg hph]
    by_cases o2 : order = 2
    · rw [if_pos o2, hc]; exact .inl rfl
    · rw [if_neg o2]
      by_cases o3 : order = 3
      · rw [if_pos o3]; exact .inr (.inl ⟨rfl, ha, hc, hs.1, hs.2.1, hs.2.2.1, .inr o3⟩)
      · rw [if_neg o3]
        have hn0 : 0 ≤ s.st := hs.2.2.2.1
        have ho : order = 0 ∨ order = 1 := by omega
        have ho' : order ≠ 1 → order = 0 := by omega
        clear o2 o3 h3
        by_cases hlen : s.st ≤ (l.length : Int)
        · rcases roll_is now (decide (order = 1)) h2 (l.drop s.st.toNat) s (fun x hx => g4 x (List.mem_of_mem_drop hx)) hs (by rw [List.length_drop]; omega) with h | ⟨k1, k2, k3, k4, k5, k6, y, m, k7, k8, k9⟩
          · rw [h, hc]; exact .inl rfl
          · refine .inr (.inr ⟨k1, k2.trans ha, k3.trans hc, k4, fun h => by rw [← hst h]; exact k5, ?_, ho, y, m, ?_, k8, ?_⟩)
            · rcases k6 with h | ⟨z, hz, h⟩
              · rw [h]; rcases hwe with h' | h'
                · exact .inl h'
                · exact .inr (.inl h')
              · exact .inr (.inr ⟨z, List.mem_of_mem_drop hz, h⟩)
            · rw [List.drop_drop] at k7
              rw [← k7]; congr 1; omega
            · rcases k9 with ⟨h, h'⟩ | ⟨h, h', h''⟩
              · refine .inl ⟨h, fun hg h3 => ?_⟩
                rw [← hst hg] at h3 ⊢
                rcases h' with h' | h'
                · exact absurd h3 h'
                · exact h'
              · by_cases hg : t.c = g
                · have h' := of_decide_eq_false h'
                  exact .inr ⟨h.trans (hst hg), ho' h', h''⟩
                · rw [h] at k4
                  have := hb hg
                  omega
        · rw [List.drop_eq_nil_of_le (by omega)]; rw [rollF, hc]; exact .inl rfl
  by_cases hc : g = t.c
  · rw [if_neg (fun h => h.1 hc), comesS, if_pos hc]
    rcases ok_cases h1.2 with ⟨h, _⟩ | ⟨h, k1, k2, k3⟩ | h
    · have hp : t.ph = 1 ∨ t.ph = 4 := by rw [h]; exact .inl rfl
      rw [nextS, if_pos hp]
      have : t.c = t.a := by rw [h]; rfl
      exact .inl (by rw [h, hc, this])
    · have hp : t.ph = 1 ∨ t.ph = 4 := by rw [h]; exact .inr rfl
      rw [nextS, if_pos hp]
      exact .inr (.inl ⟨h, rfl, hc.symm, k1, k2, k3, .inl rfl⟩)
    · exact main t h hc.symm rfl (fun _ => rfl) (fun h => absurd hc.symm h) (.inr rfl)
  · by_cases ha : g = t.a
    · rw [if_pos ⟨hc, ha⟩, ← ha]; exact .inl rfl
    · rw [if_neg (fun h => ha h.2), comesS, if_neg hc]
      have hta : t.a ≠ [] := by
        rcases ok_cases h1.2 with ⟨_, h⟩ | ⟨_, h, _⟩ | h
        · exact h
        · exact h
        · exact h.1
      exact main _ (begun_way hta g1 (fun h => ha h.symm)) rfl rfl (fun h => absurd h.symm hc) (fun _ => rfl) (.inl rfl)
end Go.Proofs.Ytaaaogiheplbmaa

/- Values alike, plainly; what is read of two of them. -/
import Derived.Test.YtmdemcjmcnfjmaaGreatDoorGc
import Derived.Deep.QuietTactic
import Derived.BigQuiet
import Derived.Deep.RegionHeld3
set_option linter.unusedSimpArgs false
set_option linter.unusedVariables false
namespace Go.Proofs.YtmdemcjmcnfjmaaGreatDoor
open Go.RowKit

def allS (f : V → V → Bool) : List V → List V → Bool
  | x :: l, y :: m => f x y && allS f l m
  | _, _ => true
theorem allS_iff {f : V → V → Bool} : ∀ (l m : List V), allS f l m = true ↔ ∀ (j : Nat) (x y : V), l[j]? = some x → m[j]? = some y → f x y = true
  | [], m => by simp [allS]
  | x :: l, [] => by simp [allS]
  | x :: l, y :: m => by
    rw [allS, Bool.and_eq_true, allS_iff l m]
    constructor
    · rintro ⟨h1, h2⟩ j x' y' hx hy
      cases j with
      | zero => simp at hx hy; subst hx; subst hy; exact h1
      | succ j => exact h2 j x' y' (by simpa using hx) (by simpa using hy)
    · intro h
      exact ⟨h 0 x y rfl rfl, fun j x' y' hx hy => h (j + 1) x' y' (by simpa using hx) (by simpa using hy)⟩
def sameS : Nat → V → V → Bool
  | 0, _, _ => false
  | d + 1, a, b => decide (a.kind = b.kind) && decide (a.n = b.n) && decide (a.s = b.s) && decide (a.keys = b.keys) && decide (a.l.length = b.l.length) && allS (sameS d) a.l b.l

/- Both boxes, and both values, in a world behind w. -/
def SameI (w wr : World) (ok ok' : Nat → Prop) (d : Nat) (a b : V) (k n : Int) (s : List UInt8) (nk nl : Nat) (a1 a2 b1 b2 : Option Addr) (c1 c2 d1 d2 : Nat) : Prop :=
  BoxIs wr w.heap.size (.int .i64 k) (.int .i64 n) (.string ⟨s.toArray⟩) (.slice a1 nk c1) (.slice a2 nl c2) ∧
  BoxIs wr (w.heap.size + 1) (.int .i64 k) (.int .i64 n) (.string ⟨s.toArray⟩) (.slice b1 nk d1) (.slice b2 nl d2) ∧
  VIs wr ok d a (.agg #[.int .i64 k, .int .i64 n, .string ⟨s.toArray⟩, .slice a1 nk c1, .slice a2 nl c2]) ∧
  VIs wr ok' d b (.agg #[.int .i64 k, .int .i64 n, .string ⟨s.toArray⟩, .slice b1 nk d1, .slice b2 nl d2]) ∧ Below w.heap.size w wr
theorem SameI.below {w wr w' : World} {ok ok' : Nat → Prop} {d : Nat} {a b : V} {k n : Int} {s : List UInt8} {nk nl : Nat} {a1 a2 b1 b2 : Option Addr} {c1 c2 d1 d2 : Nat} (h : SameI w wr ok ok' d a b k n s nk nl a1 a2 b1 b2 c1 c2 d1 d2) (hb : Below wr.heap.size wr w') : SameI w w' ok ok' d a b k n s nk nl a1 a2 b1 b2 c1 c2 d1 d2 :=
  ⟨box_bel hb h.1, box_bel hb h.2.1, h.2.2.1.bel hb, h.2.2.2.1.bel hb, bel_trans h.2.2.2.2 hb⟩
theorem SameI.drewN {w wr : World} {ok ok' : Nat → Prop} {d : Nat} {a b : V} {k n : Int} {s : List UInt8} {nk nl : Nat} {a1 a2 b1 b2 : Option Addr} {c1 c2 d1 d2 : Nat} (h : SameI w wr ok ok' d a b k n s nk nl a1 a2 b1 b2 c1 c2 d1 d2) (m : Nat) : SameI w (wr.drewN m) ok ok' d a b k n s nk nl a1 a2 b1 b2 c1 c2 d1 d2 :=
  h.below ⟨rfl, rfl, rfl, Nat.le_refl _, fun _ _ => rfl⟩

theorem strs_at {w : World} {ok : Nat → Prop} {xs : List (List UInt8)} {a : Option Addr} {n c k : Nat} (h : StrsAre w ok xs (.slice a n c)) (hk : k < xs.length) : ∃ b off, a = some ⟨b, off, none⟩ ∧ xs.length ≤ c ∧ c ≤ maxLen ∧ w.cell? ⟨b, off + k, none⟩ = some (.string ⟨xs[k].toArray⟩) := by
  rcases h.2 with ⟨e, _⟩ | ⟨b, off, c', e, h1, h2, hcs⟩
  · rw [e] at hk; simp at hk
  · simp only [Value.slice.injEq] at e
    obtain ⟨rfl, -, rfl⟩ := e
    exact ⟨b, off, rfl, h1, h2, (hcs k xs[k] (List.getElem?_eq_getElem hk)).2.2⟩

theorem vals_at {w : World} {ok : Nat → Prop} {d : Nat} {xs : List V} {a : Option Addr} {n c k : Nat} (h : ValsAre w ok (VIs w ok d) xs (.slice a n c)) (hk : k < xs.length) : ∃ b off, a = some ⟨b, off, none⟩ ∧ xs.length ≤ c ∧ c ≤ maxLen ∧
    ∃ a5 c5 a6 c6, w.cell? ⟨b, off + k * 5, none⟩ = some (.int .i64 xs[k].kind) ∧ w.cell? ⟨b, off + k * 5 + 1, none⟩ = some (.int .i64 xs[k].n) ∧ w.cell? ⟨b, off + k * 5 + 2, none⟩ = some (.string ⟨xs[k].s.toArray⟩) ∧
      w.cell? ⟨b, off + k * 5 + 3, none⟩ = some (.slice a5 xs[k].keys.length c5) ∧ w.cell? ⟨b, off + k * 5 + 4, none⟩ = some (.slice a6 xs[k].l.length c6) ∧
      VIs w ok d xs[k] (.agg #[.int .i64 xs[k].kind, .int .i64 xs[k].n, .string ⟨xs[k].s.toArray⟩, .slice a5 xs[k].keys.length c5, .slice a6 xs[k].l.length c6]) := by
  rcases h.2 with ⟨e, _⟩ | ⟨b, off, c', e, h1, h2, hcs⟩
  · rw [e] at hk; simp at hk
  · simp only [Value.slice.injEq] at e
    obtain ⟨rfl, -, rfl⟩ := e
    obtain ⟨v0, v1, v2, v3, v4, -, g0, g1, g2, g3, g4, g5⟩ := hcs k xs[k] (List.getElem?_eq_getElem hk)
    have g6 := g5
    obtain ⟨rfl, rfl, rfl, ⟨a5, c5, rfl⟩, ⟨a6, c6, rfl⟩⟩ := g6.agg
    exact ⟨b, off, rfl, h1, h2, a5, c5, a6, c6, g0, g1, g2, g3, g4, g5⟩

theorem allS_refl {f : V → V → Bool} : ∀ (l : List V), (∀ x ∈ l, f x x = true) → allS f l l = true
  | [], _ => rfl
  | x :: l, h => by rw [allS, h x (by simp), allS_refl l fun y hy => h y (by simp [hy])]; rfl
theorem vals_mem {w : World} {ok : Nat → Prop} {R : V → Value → Prop} {xs : List V} {v : Value} (h : ValsAre w ok R xs v) {x : V} (hx : x ∈ xs) : ∃ y, R x y := by
  rcases h.2 with ⟨e, _⟩ | ⟨b, off, c, e, h1, h2, h3⟩
  · rw [e] at hx; cases hx
  · obtain ⟨i, hi⟩ := List.getElem?_of_mem hx
    obtain ⟨v0, v1, v2, v3, v4, -, -, -, -, -, -, g⟩ := h3 i x hi
    exact ⟨_, g⟩
theorem sameS_refl {w : World} {ok : Nat → Prop} (d : Nat) : ∀ {t : V} {v : Value}, VIs w ok d t v → sameS d t t = true := by
  induction d with
  | zero => intro t v h; exact h.elim
  | succ d ih =>
    intro t v h
    obtain ⟨ks, ls, e, h1, h2, h3, h4, h5⟩ := h
    have := allS_refl (f := sameS d) t.l fun x hx => by obtain ⟨y, hy⟩ := vals_mem h5 hx; exact ih hy
    simp [sameS, this]
theorem ba_app (a b : List UInt8) : ByteArray.mk a.toArray ++ ByteArray.mk b.toArray = ByteArray.mk (a ++ b).toArray := by
  apply ByteArray.ext; simp

end Go.Proofs.YtmdemcjmcnfjmaaGreatDoor

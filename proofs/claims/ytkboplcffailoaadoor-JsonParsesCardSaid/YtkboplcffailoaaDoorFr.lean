/- A region of two pushes into an object that is being made: what it keeps. -/
import Derived.Test.YtkboplcffailoaaDoorFo
import Derived.Test.YtkboplcffailoaaDoorRt
import Derived.Test.YtkboplcffailoaaDoorFq
set_option linter.unusedSimpArgs false
set_option linter.unusedVariables false
namespace Go.Proofs.YtkboplcffailoaaDoor
open Go.RowKit

theorem alloc_here (w : World) (o : Obj) : (w.alloc o).heap[w.heap.size]? = some o := heap_alloc_new w o
theorem h4dd (w : World) (o1 o2 o3 o4 : Obj) : ((((w.alloc o1).alloc o2).alloc o3).alloc o4).heap[w.heap.size + 3]? = some o4 := by
  have h := heap_alloc_new (((w.alloc o1).alloc o2).alloc o3) o4
  have e : (((w.alloc o1).alloc o2).alloc o3).heap.size = w.heap.size + 3 := by simp
  rw [e] at h; exact h
theorem nb_grown {W W' : World} {nb : Nat} {o : Obj} {r : Option Nat} (h : W.heap[nb]? = some o) (hg : W.grownBy W' r) (hr : some nb ≠ r) : W'.heap[nb]? = some o :=
  (hg.block nb (Array.getElem?_eq_some_iff.1 h).1 hr).trans h
theorem OE.drew {w wr : World} {ok : Nat → Prop} {B d : Nat} {ks : List (List UInt8)} {l : List V} {kv lv : Value} (h : OE w ok B d ks l kv lv wr) : OE w ok B d ks l kv lv wr.drew := h.bel (bel_drewN wr 1)
theorem OE.built {w wr : World} {ok : Nat → Prop} {B d : Nat} {ks : List (List UInt8)} {l : List V} {kv lv : Value} (h : OE w ok B d ks l kv lv wr) (o : Obj) : OE w ok B d ks l kv lv (wr.alloc o) ∧ (wr.alloc o).heap[wr.heap.size]? = some o ∧ wr.heap.size ≤ (wr.alloc o).heap.size :=
  ⟨h.bel (bel_alloc _ _), alloc_here _ _, (bel_alloc wr o).size⟩
theorem OE.kown {w wr : World} {ok : Nat → Prop} {B d : Nat} {ks : List (List UInt8)} {l : List V} {kv lv : Value} (h : OE w ok B d ks l kv lv wr) : ∀ g, kv.ownBlock = some g → B ≤ g ∧ g < wr.heap.size := by
  obtain ⟨cs, h1, -⟩ := h; exact fun g e => h1.lt g e
theorem OE.lown {w wr : World} {ok : Nat → Prop} {B d : Nat} {ks : List (List UInt8)} {l : List V} {kv lv : Value} (h : OE w ok B d ks l kv lv wr) : ∀ g, lv.ownBlock = some g → B ≤ g ∧ g < wr.heap.size := by
  obtain ⟨cs, -, h2, -⟩ := h; exact fun g e => h2.lt g e
theorem OE.below {w wr : World} {ok : Nat → Prop} {B d : Nat} {ks : List (List UInt8)} {l : List V} {kv lv : Value} (h : OE w ok B d ks l kv lv wr) : Below w.heap.size w wr := by
  obtain ⟨cs, -, -, -, -, h5, -⟩ := h; exact h5
theorem OE.set {w wr : World} {ok : Nat → Prop} {B d : Nat} {ks : List (List UInt8)} {l : List V} {kv lv : Value} (h : OE w ok B d ks l kv lv wr) {g : Nat} (h1 : w.heap.size ≤ g) (h2 : g < B) (i : Nat) (x : Value) : OE w ok B d ks l kv lv (wr.setCell ⟨g, i, none⟩ x) := by
  obtain ⟨cs, e1, e2, e3, e4, e5, e6⟩ := h
  have hg : wr.grownBy (wr.setCell ⟨g, i, none⟩ x) (some g) := gb_set (gb_refl _ _) _ _
  exact ⟨cs, own_kept' e1 hg h2, own_kept' e2 hg h2, e3.imp fun _ _ h => h.grown hg (fun k hk e => by have := hk.2; simp at e; omega), e4, gb_none (gb_out (gb_below e5) hg h1), e6⟩
theorem own_formR {w : World} {B : Nat} {e : TypeId} {size : Nat} {v : Value} {n : Nat} {xs : List Value} (h : w.ownsRow B e size v n xs) : ∃ a c, v = .slice a n c := by
  rcases h.2 with ⟨h1, h2⟩ | ⟨g, cap, cur, h1, -⟩
  · exact ⟨none, 0, by rw [h1, h2]⟩
  · exact ⟨_, _, h1⟩
theorem OE.forms {w wr : World} {ok : Nat → Prop} {B d : Nat} {ks : List (List UInt8)} {l : List V} {kv lv : Value} (h : OE w ok B d ks l kv lv wr) : ∃ a c b e, kv = .slice a ks.length c ∧ lv = .slice b l.length e := by
  obtain ⟨cs, e1, e2, -⟩ := h
  obtain ⟨a, c, h1⟩ := own_formR e1
  obtain ⟨b, e, h2⟩ := own_formR e2
  exact ⟨a, c, b, e, h1, h2⟩
theorem OE.nil {w wr : World} {ok : Nat → Prop} {B d : Nat} (hb : Below w.heap.size w wr) (hB : w.heap.size ≤ B) : OE w ok B d [] [] (.slice none 0 0) (.slice none 0 0) wr :=
  ⟨[], World.ownsRow_nil _ _ _ _, World.ownsRow_nil _ _ _ _, rfl, by simp [Value.ownBlock], hb, hB⟩
/- The object that is made. -/
theorem OE.made {w wr : World} {ok : Nat → Prop} {B d : Nat} {ks : List (List UInt8)} {l : List V} {kv lv : Value} (h : OE w ok B d ks l kv lv wr) (hk : ∀ x ∈ ks, x.length ≤ maxLen) (h1 : ks.length ≤ 1000001) (h2 : l.length ≤ 1000001) :
    VIs wr (okN ok w.heap.size) (d + 1) ⟨5, 0, [], ks, l⟩ (.agg #[.int .i64 5, .int .i64 0, .string ⟨#[]⟩, kv, lv]) := by
  obtain ⟨cs, e1, e2, e3, e4, e5, e6⟩ := h
  refine ⟨kv, lv, rfl, by unfold I64; simp, by unfold I64; simp, by simp [maxLen], ?_, ?_⟩
  · exact own_strs rfl e1 hk (fun k hk => .inr (by omega)) (show ks.length ≤ maxLen by unfold maxLen; omega)
  · exact own_vals rfl e2 (e3.imp fun _ _ h => h.weak fun k hk => .inl hk.1) (fun k hk => .inr (by omega)) (show l.length ≤ maxLen by unfold maxLen; omega)
/- Boxes that lie below B, and what was there. -/
def SO (w : World) (n : Nat) (F : World → Prop) (kv lv : Value) (W : World) : Prop :=
  BoxIs W (w.heap.size + n) (.int .i64 5) (.int .i64 0) (.string ⟨#[]⟩) kv lv ∧ F W ∧ Below w.heap.size w W
def Stays (B : Nat) (F : World → Prop) : Prop := ∀ W W' r, F W → W.grownBy W' r → (∀ g, r = some g → B ≤ g) → F W'
theorem SO.grown {w : World} {n : Nat} {F : World → Prop} {kv lv : Value} {W W' : World} {r : Option Nat} (hF : Stays (w.heap.size + n + 1) F) (h : SO w n F kv lv W) (hg : W.grownBy W' r) (hr : ∀ g, r = some g → w.heap.size + n + 1 ≤ g) : SO w n F kv lv W' :=
  ⟨h.1.grown hg (fun e => by have := hr _ e.symm; omega), hF _ _ _ h.2.1 hg hr, gb_far h.2.2 hg (fun g e => by have := hr g e; omega)⟩
theorem SO.alloc {w : World} {n : Nat} {F : World → Prop} {kv lv : Value} {W : World} (hF : Stays (w.heap.size + n + 1) F) (h : SO w n F kv lv W) (o : Obj) : SO w n F kv lv (W.alloc o) :=
  h.grown hF (World.grownBy_alloc W o none) (by simp)
theorem SO.drew {w : World} {n : Nat} {F : World → Prop} {kv lv : Value} {W : World} (hF : Stays (w.heap.size + n + 1) F) (h : SO w n F kv lv W) : SO w n F kv lv W.drew :=
  h.grown hF (gb_drew (gb_refl W none)) (by simp)
/- Behind both stores. -/
theorem SO.stored {w : World} {n : Nat} {F : World → Prop} {kv lv kv' lv' : Value} {W : World} (hF : ∀ W i x, F W → F (W.setCell ⟨w.heap.size + n, i, none⟩ x)) (h : SO w n F kv lv W) :
    SO w n F kv' lv' ((W.setCell ⟨w.heap.size + n, 3, none⟩ kv').setCell ⟨w.heap.size + n, 4, none⟩ lv') :=
  ⟨heap_set (heap_set h.1 3 kv') 4 lv', hF _ _ _ (hF _ _ _ h.2.1), gb_none (gb_out (gb_out (gb_below h.2.2) (gb_set (gb_refl _ _) _ _) (by omega)) (gb_set (gb_refl _ _) _ _) (by omega))⟩
theorem bx_stays {B g : Nat} {c0 c1 c2 c3 c4 : Value} (h : g < B) : Stays B (fun W => BoxIs W g c0 c1 c2 c3 c4) := fun W W' r h1 h2 h3 => h1.grown h2 (fun e => by have := h3 _ e.symm; omega)
theorem zip_drop {ks : List (List UInt8)} {l : List V} {k : Nat} (h1 : k < ks.length) (h2 : k < l.length) : (ks.zip l).drop k = (ks[k], l[k]) :: (ks.zip l).drop (k + 1) := by
  have h : k < (ks.zip l).length := by simp; omega
  rw [List.drop_eq_getElem_cons h]; simp
theorem bx_set {W : World} {g g' : Nat} {c0 c1 c2 c3 c4 : Value} (h : BoxIs W g c0 c1 c2 c3 c4) (hne : g ≠ g') (i : Nat) (x : Value) : BoxIs (W.setCell ⟨g', i, none⟩ x) g c0 c1 c2 c3 c4 :=
  h.grown (gb_set (gb_refl W (some g')) i x) (by simpa using hne)
end Go.Proofs.YtkboplcffailoaaDoor

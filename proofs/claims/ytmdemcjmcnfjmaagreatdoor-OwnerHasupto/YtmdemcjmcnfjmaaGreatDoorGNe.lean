/- What the function that kept of package owner hands over does. -/
import Derived.Test.YtmdemcjmcnfjmaaGreatDoorSj
import Derived.Deep.AppendLies
import Derived.Test.YtmdemcjmcnfjmaaGreatDoorOw
import Derived.Test.YtmdemcjmcnfjmaaGreatDoorWc
import Derived.Test.YtmdemcjmcnfjmaaGreatDoorGOn
import Derived.Test.YtmdemcjmcnfjmaaGreatDoorOs
import Derived.Deep.RegionHeld3
import Derived.Shelf.Strings.BuilderK
import Derived.Test.YtmdemcjmcnfjmaaGreatDoorCc
import Derived.Shelf.SlSortCmp.NoneTotal
import Derived.Test.YtmdemcjmcnfjmaaGreatDoorTp
import Derived.Test.YtmdemcjmcnfjmaaGreatDoorOp
import Derived.Test.YtmdemcjmcnfjmaaGreatDoorAa
import Derived.Shelf.SlSortCmp.QuietGrown
/- A text more in a row of the call's own. -/
set_option linter.unusedSimpArgs false
set_option linter.unusedVariables false
namespace Go.Proofs.YtmdemcjmcnfjmaaGreatDoor
open Go.RowKit

theorem run_pushS {W : World} {B : Nat} {v : Value} {n : Nat} {cs : List Value} {nb : Nat} {k : ByteArray} (ho : W.ownsRow B 9 1 v n cs) (hnb : W.heap[nb]? = some (.cells #[.string k] 9)) (hn : n ≤ 1000000) (hB : B ≤ W.heap.size) (ty : TypeId) :
    ∃ g cap W', (Builtin.append_ #[22, 22] ty #[v, .slice (some ⟨nb, 0, none⟩) 1 1]).run Tryz.prog W = .ok (.slice (some ⟨g, 0, none⟩) (n + 1) cap) W' ∧ W'.ownsRow B 9 1 (.slice (some ⟨g, 0, none⟩) (n + 1) cap) (n + 1) (cs ++ [.string k]) ∧ W.grownBy W' v.ownBlock ∧ (v.ownBlock = some g ∨ W.heap.size = g) := by
  obtain ⟨i0, hi, hz0, hz1, hz2⟩ := info_parts info9
  obtain ⟨g, cap, W', hr, h1, h2, h3, -⟩ := run_append_lies (P := Tryz.prog) W 22 ty B 9 i0 _ 1 16 Tryz.underlying22 hi hz0 hz1 hz2 rfl (by decide) v n cs ho ⟨nb, 0, none⟩ 1 1 [.string k] rfl
    (World.news_of_block (cs := #[.string k]) hnb) (by intro u hu; simp only [List.mem_cons, List.not_mem_nil, or_false] at hu; subst hu; rfl) (by decide) (by unfold maxLen; omega) (by omega) hB W.heap.size rfl
  exact ⟨g, cap, W', hr, h1, h2, h3.imp id Eq.symm⟩
theorem gb_far {a w w' : World} {r : Option Nat} (hb : Below a.heap.size a w) (hg : w.grownBy w' r) (hr : ∀ g, r = some g → a.heap.size ≤ g) : Below a.heap.size a w' :=
  ⟨hg.os.trans hb.os, hg.tape.trans hb.tape, hg.output.trans hb.output, Nat.le_trans hb.size hg.size, fun k hk => (hg.block k (Nat.lt_of_lt_of_le hk hb.size) (fun e => by have := hr k e.symm; omega)).trans (hb.block k hk)⟩
end Go.Proofs.YtmdemcjmcnfjmaaGreatDoor

/- A list of texts behind a pointer, that grows; leaves, one key after the other. -/
set_option linter.unusedSimpArgs false
set_option linter.unusedVariables false
namespace Go.Proofs.YtmdemcjmcnfjmaaGreatDoor
open Go.RowKit

/- All is as it was but the box gl and the row r. -/
structure Kept2 (w w' : World) (gl : Nat) (r : Option Nat) : Prop where
  os : w'.os = w.os
  tape : w'.tape = w.tape
  output : w'.output = w.output
  size : w.heap.size ≤ w'.heap.size
  block : ∀ k, k < w.heap.size → k ≠ gl → some k ≠ r → w'.heap[k]? = w.heap[k]?
/- The row is the one that was, or a new one. -/
def Fresh (w : World) (r r' : Option Nat) : Prop := r' = r ∨ ∃ g, r' = some g ∧ w.heap.size ≤ g
theorem kept2_bel {w w' : World} {gl : Nat} {r : Option Nat} (h : Below w.heap.size w w') : Kept2 w w' gl r := ⟨h.os, h.tape, h.output, h.size, fun k hk _ _ => h.block k hk⟩
theorem Kept2.trans {a b c : World} {gl : Nat} {r r1 : Option Nat} (h : Kept2 a b gl r) (hf : Fresh a r r1) (k : Kept2 b c gl r1) : Kept2 a c gl r :=
  ⟨k.os.trans h.os, k.tape.trans h.tape, k.output.trans h.output, Nat.le_trans h.size k.size, fun i hi h1 h2 => by
    rw [k.block i (Nat.lt_of_lt_of_le hi h.size) h1 ?_, h.block i hi h1 h2]
    rcases hf with rfl | ⟨g, rfl, hg⟩
    · exact h2
    · simp; omega⟩
theorem Fresh.trans {a b : World} {r r1 r2 : Option Nat} (h : Fresh a r r1) (hs : a.heap.size ≤ b.heap.size) (k : Fresh b r1 r2) : Fresh a r r2 := by
  rcases k with rfl | ⟨g, rfl, hg⟩
  · exact h
  · exact .inr ⟨g, rfl, by omega⟩
theorem Kept2.low {w w' : World} {gl : Nat} {r : Option Nat} (h : Kept2 w w' gl r) (hg : gl < w.heap.size) (hr : ∀ g, r = some g → gl < g) : Below gl w w' :=
  ⟨h.os, h.tape, h.output, h.size, fun k hk => h.block k (by omega) (by omega) (fun e => by have := hr k e.symm; omega)⟩
theorem In.belB {w w' : World} {ok : Nat → Prop} {B : Nat} {t : V} {v : Value} (h : In w ok t v) (hok : ∀ k, ok k → k < B) (hb : Below B w w') : In w' ok t v := by
  obtain ⟨d, h⟩ := h
  exact ⟨d, VIs.imp (fun a x h1 h2 => ⟨h1, (World.cell?_of_block (hb.block _ (hok _ h1))).trans h2⟩) d h⟩
/- The list L lies behind the pointer gl, in the row r. -/
def GatI (w : World) (gl : Nat) (L : List (List UInt8)) (r : Option Nat) : Prop :=
  ∃ sv, w.heap[gl]? = some (.cells #[sv] 22) ∧ w.ownsRow (gl + 1) 9 1 sv L.length (L.map fun s => .string ⟨s.toArray⟩) ∧ sv.ownBlock = r
theorem own_lt {w : World} {B : Nat} {e : TypeId} {size n : Nat} {v : Value} {xs : List Value} (h : w.ownsRow B e size v n xs) {g : Nat} (hg : v.ownBlock = some g) : B ≤ g ∧ g < w.heap.size := by
  rcases h.2 with ⟨rfl, -⟩ | ⟨g', cap, cur, rfl, h1, h2, -⟩
  · cases hg
  · cases hg; exact ⟨h1, (Array.getElem?_eq_some_iff.1 h2).1⟩
theorem own_same {w w' : World} {B : Nat} {e : TypeId} {size n : Nat} {v : Value} {xs : List Value} (h : w.ownsRow B e size v n xs) (hk : ∀ g, v.ownBlock = some g → w'.heap[g]? = w.heap[g]?) : w'.ownsRow B e size v n xs := by
  refine ⟨h.1, ?_⟩
  rcases h.2 with h0 | ⟨g', cap, cur, rfl, h1, h2, h3⟩
  · exact .inl h0
  · exact .inr ⟨g', cap, cur, rfl, h1, by rw [hk g' rfl]; exact h2, h3⟩
theorem GatI.bel {w w' : World} {gl : Nat} {L : List (List UInt8)} {r : Option Nat} (h : GatI w gl L r) (hb : Below w.heap.size w w') : GatI w' gl L r := by
  obtain ⟨sv, h1, h2, h3⟩ := h
  refine ⟨sv, (hb.block gl (Array.getElem?_eq_some_iff.1 h1).1).trans h1, own_same h2 fun g hg => hb.block g (own_lt h2 hg).2, h3⟩
theorem GatI.lt {w : World} {gl : Nat} {L : List (List UInt8)} {r : Option Nat} (h : GatI w gl L r) : gl < w.heap.size := by
  obtain ⟨sv, h1, -⟩ := h
  exact (Array.getElem?_eq_some_iff.1 h1).1
theorem GatI.row {w : World} {gl : Nat} {L : List (List UInt8)} {r : Option Nat} (h : GatI w gl L r) {g : Nat} (hg : r = some g) : gl < g ∧ g < w.heap.size := by
  obtain ⟨sv, -, h2, h3⟩ := h
  have := own_lt h2 (h3.trans hg)
  exact ⟨by omega, this.2⟩
/- Behind a call: so many more. -/
def GatP (w w' : World) (gl : Nat) (r : Option Nat) (L : List (List UInt8)) : Prop := ∃ r', GatI w' gl L r' ∧ Kept2 w w' gl r ∧ Fresh w r r'
/- One more. -/
theorem gat_push {wc W' : World} {gl : Nat} {L : List (List UInt8)} {r : Option Nat} {sv : Value} {p : List UInt8} {g cap : Nat} (hb : wc.heap[gl]? = some (.cells #[sv] 22)) (hr : sv.ownBlock = r)
    (hB : ∀ g, r = some g → gl < g) (ho : W'.ownsRow (gl + 1) 9 1 (.slice (some ⟨g, 0, none⟩) (L.length + 1) cap) (L.length + 1) (L.map (fun s => Value.string ⟨s.toArray⟩) ++ [.string ⟨p.toArray⟩])) (hg : (wc.alloc (.cells #[.string ⟨p.toArray⟩] 9)).grownBy W' sv.ownBlock)
    (hf : sv.ownBlock = some g ∨ (wc.alloc (.cells #[.string ⟨p.toArray⟩] 9)).heap.size = g) (hgl : gl < wc.heap.size) :
    GatP wc (W'.setCell ⟨gl, 0, none⟩ (.slice (some ⟨g, 0, none⟩) (L.length + 1) cap)) gl r (L ++ [p]) := by
  have ha := bel_alloc wc (.cells #[.string ⟨p.toArray⟩] 9)
  have hgo := (own_lt ho (g := g) rfl).1
  have hbox : W'.heap[gl]? = some (.cells #[sv] 22) := by
    rw [hg.block gl (Nat.lt_of_lt_of_le hgl ha.size) ?_, ha.block gl hgl, hb]
    intro e
    have := hB gl (by rw [← hr]; exact e.symm)
    omega
  have hset : ∀ k, k ≠ gl → (W'.setCell ⟨gl, 0, none⟩ (.slice (some ⟨g, 0, none⟩) (L.length + 1) cap)).heap[k]? = W'.heap[k]? := fun k hk => Below.heap_setCell W' ⟨gl, 0, none⟩ _ k hk
  refine ⟨some g, ⟨_, heap_set hbox 0 _, ?_, rfl⟩, ⟨hg.os.trans ha.os, hg.tape.trans ha.tape, hg.output.trans ha.output, ?_, fun k hk h1 h2 => ?_⟩, ?_⟩
  · have : W'.ownsRow (gl + 1) 9 1 (.slice (some ⟨g, 0, none⟩) (L.length + 1) cap) (L ++ [p]).length ((L ++ [p]).map fun s => Value.string ⟨s.toArray⟩) := by simpa using ho
    refine own_same this fun g' hg' => hset g' ?_
    have e9 : g = g' := by simpa [Value.ownBlock] using hg'
    omega
  · have h1 := ha.size
    have h2 := hg.size
    simp only [World.setCell, Array.size_modify]
    omega
  · rw [hset k h1, hg.block k (Nat.lt_of_lt_of_le hk ha.size) (by rw [hr]; exact h2), ha.block k hk]
  · rcases hf with hf | hf
    · exact .inl (by rw [← hr, hf])
    · refine .inr ⟨g, rfl, ?_⟩
      have := ha.size; omega

/- Leaves, up to the k-th key. -/
def lvsU (D : Nat) (t : V) (k : Nat) : List (List (List UInt8)) := ((t.keys.zip t.l).take k).flatMap fun p => if p.2.kind = 5 ∧ p.2.l ≠ [] then (lvs D p.2).map (p.1 :: ·) else [[p.1]]
theorem lvsU_zero (D : Nat) (t : V) : lvsU D t 0 = [] := by simp [lvsU]
theorem lvsU_end {D : Nat} {t : V} (h : t.keys.length = t.l.length) : lvsU D t t.keys.length = lvs (D + 1) t := by
  rw [lvsU, List.take_of_length_le (by rw [List.length_zip]; omega), lvs]
theorem lvsU_step {D : Nat} {t : V} {k : Nat} (hk : k < t.keys.length) (hl : k < t.l.length) : lvsU D t (k + 1) = lvsU D t k ++ (if t.l[k].kind = 5 ∧ t.l[k].l ≠ [] then (lvs D t.l[k]).map (t.keys[k] :: ·) else [[t.keys[k]]]) := by
  unfold lvsU
  rw [List.take_succ_eq_append_getElem (by rw [List.length_zip]; omega), List.flatMap_append, List.getElem_zip]
  simp
def pathsU (at_ : List UInt8) (l : List (List (List UInt8))) : List (List UInt8) := l.map fun ns => at_ ++ joinP ns
theorem pathsU_deep (at_ key : List UInt8) (l : List (List (List UInt8))) : pathsU at_ (l.map (key :: ·)) = pathsU (at_ ++ joinP [key]) l := by
  unfold pathsU
  rw [List.map_map]
  refine List.map_congr_left fun ns _ => ?_
  have : joinP (key :: ns) = joinP [key] ++ joinP ns := by rw [← join_append]; rfl
  simp [this]
theorem lvs_cnt : ∀ (D : Nat) (t : V), (lvs D t).length ≤ cnts t.l
  | 0, t => by simp [lvs]
  | D + 1, t => by
    rw [lvs]
    generalize t.keys = ks
    generalize t.l = l
    induction l generalizing ks with
    | nil => simp
    | cons x l ih =>
      cases ks with
      | nil => simp
      | cons k ks =>
        rw [List.zip_cons_cons, List.flatMap_cons, List.length_append, cnts_cons]
        have h1 := ih ks
        have h2 := lvs_cnt D x
        have h3 := cnt_eq x
        have h0 : (if x.kind = 5 ∧ x.l ≠ [] then (lvs D x).map (k :: ·) else [[k]]).length ≤ cnt x := by
          split
          · rw [List.length_map]; omega
          · simp; omega
        exact Nat.add_le_add h0 h1
theorem lvsU_cnt (D : Nat) (t : V) (k : Nat) : (lvsU D t k).length ≤ cnts (t.l.take k) := by
  unfold lvsU
  generalize t.keys = ks
  generalize t.l = l
  induction l generalizing ks k with
  | nil => simp
  | cons x l ih =>
    cases ks with
    | nil => simp
    | cons q ks =>
      cases k with
      | zero => simp
      | succ k =>
        rw [List.zip_cons_cons, List.take_succ_cons, List.take_succ_cons, List.flatMap_cons, List.length_append, cnts_cons]
        have h1 := ih k ks
        have h2 := lvs_cnt D x
        have h3 := cnt_eq x
        have h0 : (if x.kind = 5 ∧ x.l ≠ [] then (lvs D x).map (q :: ·) else [[q]]).length ≤ cnt x := by
          split
          · rw [List.length_map]; omega
          · simp; omega
        exact Nat.add_le_add h0 h1
theorem cnts_takeK {l : List V} {k : Nat} (hk : k < l.length) : cnts (l.take k) + cnt l[k] ≤ cnts l := by
  have h := List.take_append_drop k l
  have e : cnts l = cnts (l.take k) + cnts (l.drop k) := by
    rw [cnts, cnts, cnts, ← List.sum_append, ← List.map_append, h]
  rw [e, cnts_drop hk]; omega
theorem one_str (W : World) (key : List UInt8) (hk : key.length ≤ maxLen) : StrsAre (W.alloc (.cells #[.string ⟨key.toArray⟩] 9)) (fun _ => True) [key] (.slice (some ⟨W.heap.size, 0, none⟩) 1 1) := by
  refine ⟨by simp [maxLen], .inr ⟨W.heap.size, 0, 1, rfl, by simp, by simp [maxLen], fun i x hx => ?_⟩⟩
  cases i with
  | zero =>
    simp only [List.getElem?_cons_zero, Option.some.injEq] at hx
    subst hx
    refine ⟨hk, trivial, ?_⟩
    have := heap_alloc_new W (.cells #[.string ⟨key.toArray⟩] 9)
    generalize W.alloc (.cells #[.string ⟨key.toArray⟩] 9) = W2 at this
    simp [World.cell?, this, str]
  | succ i => simp at hx
end Go.Proofs.YtmdemcjmcnfjmaaGreatDoor

/- What blockedBy of package owner answers; concerned. -/
set_option linter.unusedSimpArgs false
set_option linter.unusedVariables false
namespace Go.Proofs.YtmdemcjmcnfjmaaGreatDoor
open Go.RowKit

theorem above_p (w : World) (p q : List UInt8) : Calls Tryz.prog 55 #[.string ⟨p.toArray⟩, .string ⟨q.toArray⟩] w fun e w' => e = .returned (.bool (aboveP p q)) ∧ w' = w := above_at w p q
set_option maxRecDepth 100000 in
theorem blk1_at (w : World) (leaf p : List UInt8) (gp : Nat) (hc : w.cell? ⟨gp, 0, none⟩ = some (.string ⟨p.toArray⟩)) :
    Calls Tryz.prog 54 #[.string ⟨leaf.toArray⟩, .pointer (some ⟨gp, 0, none⟩)] w fun e w' => e = .returned (.bool (aboveP leaf p || aboveP p leaf)) ∧ w' = w := by
  have A1 := above_p w leaf p
  have A2 := above_p w p leaf
  generalize aboveP leaf p = o1 at A1 ⊢
  generalize aboveP p leaf = o2 at A2 ⊢
  cases o1 with
  | true =>
    go_enter Tryz.func54, Tryz.ntmps54
    go_wp2_with fail
    refine A1.mono ?_
    rintro e w1 ⟨rfl, hw⟩
    have hw' := hw.symm
    subst hw'
    clear hw A1 A2
    go_wp2_with fail
    go_ret
    exact ⟨rfl, rfl⟩
  | false =>
    go_enter Tryz.func54, Tryz.ntmps54
    go_wp2_with fail
    refine A1.mono ?_
    rintro e w1 ⟨rfl, hw⟩
    have hw' := hw.symm
    subst hw'
    clear hw A1
    go_wp2_with fail
    refine A2.mono ?_
    rintro e w2 ⟨rfl, hw⟩
    have hw' := hw.symm
    subst hw'
    clear hw A2
    go_wp2_with fail
    go_ret
    exact ⟨by first | rfl | (simp; done) | (simp; rfl), rfl⟩
theorem blk1_enters : ∀ args w, (callFunc 54 args).run Tryz.prog w = .ok (.enter 54 args) w := enters_of Tryz.func54 (by kernel_rfl) rfl
theorem wish_len {want : V} (hk : want.kind = 5) (hg : goodV want = true) : (leavesF want).length < 4611686018427387904 := by
  have e : leavesF want = sortL ((lvs 12 want).map joinP) := if_pos ⟨hk, hg⟩
  rw [e, (sort_perm _).length_eq, List.length_map]
  have h1 := lvs_cnt 12 want
  have h2 := cnt_eq want
  have h3 := nice_cnt (nice_of hg)
  omega
theorem thr_cnt : ∀ (ns : List (List UInt8)) (v x : V), thr ns v = some x → cnt x ≤ cnt v
  | [], v, x, h => by cases h; exact Nat.le_refl _
  | n :: ns, v, x, h => by
    obtain ⟨-, z, hm, hz⟩ := thr_kind h
    have h1 := thr_cnt ns z x hz
    have h2 := cnts_mem (mem_in hm)
    have h3 := cnt_eq v
    omega
theorem thrD_cnt {v : V} (h : cnt v ≤ 2000000000000) (ns : List (List UInt8)) : cnt ((thr ns v).getD zeroT) ≤ 2000000000000 := by
  cases e : thr ns v with
  | none => rw [Option.getD_none, cnt_eq]; simp [zeroT, cnts]
  | some x => rw [Option.getD_some]; exact Nat.le_trans (thr_cnt ns v x e) h

set_option maxRecDepth 100000 in
set_option maxHeartbeats 4000000 in
theorem blockedBy_at (w : World) (ok ok' : Nat → Prop) (want t : V) (L : List (List UInt8)) (v vt : Value) (p : List UInt8) (h : WishIs w ok want L v) (ht : In w ok' t vt) (hp : p.length ≤ 140737488351232) (hM : GlobM w) (hc : cnt t ≤ 2000000000000) (hr : Rises L) (hn : L.length < 4611686018427387904) :
    Calls Tryz.prog 25 #[v, vt, .string ⟨p.toArray⟩] w fun e w' => e = .returned (.bool (blockedF want t L p)) ∧ Below w.heap.size w w' := by
  have HW := hidI h
  have HT := hidI ht
  have HM := hidI hM
  obtain ⟨a1, a2, a3, c1, c2, c3, rfl, h1, h2⟩ := h
  have H2 := hidI h2
  obtain ⟨b1, b2, d1, d2, rfl⟩ := ht.form
  have HL : Hid (∀ W, Below w.heap.size w W → Calls Tryz.prog 51 #[.agg #[.int .i64 want.kind, .int .i64 want.n, .string ⟨want.s.toArray⟩, .slice a1 want.keys.length c1, .slice a2 want.l.length c2, .slice a3 L.length c3], .string ⟨p.toArray⟩] W fun e w' => e = .returned (.bool (L.contains p)) ∧ Below W.heap.size W w') := hidI (fun W hW => hasLeaf_at W ok want L _ p (HW.out.bel hW) hr hn)
  have HO : Hid (∀ W, Below w.heap.size w W → Calls Tryz.prog 52 #[.agg #[.int .i64 want.kind, .int .i64 want.n, .string ⟨want.s.toArray⟩, .slice a1 want.keys.length c1, .slice a2 want.l.length c2, .slice a3 L.length c3], .agg #[.int .i64 t.kind, .int .i64 t.n, .string ⟨t.s.toArray⟩, .slice b1 t.keys.length d1, .slice b2 t.l.length d2], .string ⟨p.toArray⟩] W fun e w' => e = .returned (.bool (otherF want t p)) ∧ Below W.heap.size W w') := hidI (fun W hW => other_at W ok ok' want t L _ _ p (HW.out.bel hW) (HT.out.bel hW) hp (HM.out.bel hW) (thrD_cnt hc _))
  have HC : Hid (∀ (W : World) (gp : Nat), Below w.heap.size w W → W.cell? ⟨gp, 0, none⟩ = some (.string ⟨p.toArray⟩) → Calls Tryz.prog 53 #[.slice a3 L.length c3, .func (.func 54) #[] #[.pointer (some ⟨gp, 0, none⟩)]] W fun e w' => e = .returned (.bool (L.any fun q => aboveP q p || aboveP p q)) ∧ Below W.heap.size W w') := hidI (fun W gp hW hcl => containsS_at W ok L _ _ _ _ (H2.out.imp fun a x h1 h2 => ⟨h1, cell_bel hW h2⟩) blk1_enters (fun W2 x hb _ => (blk1_at W2 x p gp (cell_bel hb hcl)).mono fun e w' h => ⟨h.1, by rw [h.2]; exact Below.refl _ _⟩))
  have B3 : Hid (∀ o1 o2 o3, Below w.heap.size w (((w.alloc o1).alloc o2).alloc o3)) := fun o1 o2 o3 => bel_trans (bel_trans (bel_alloc _ _) (bel_alloc _ _)) (bel_alloc _ _)
  clear h1 h2 ht hM hc hr hn
  have R : Hid (blockedF want t L p = if L.contains p then otherF want t p else L.any fun q => aboveP q p || aboveP p q) := hidI rfl
  generalize blockedF want t L p = o9 at R ⊢
  generalize otherF want t p = o1 at HO R
  generalize (L.any fun q => aboveP q p || aboveP p q) = o2 at HC R
  obtain ⟨W3, hW3⟩ : ∃ W, W = ((w.alloc (.cells #[.int .i64 want.kind, .int .i64 want.n, .string ⟨want.s.toArray⟩, .slice a1 want.keys.length c1, .slice a2 want.l.length c2, .slice a3 L.length c3] 53)).alloc (.cells #[.int .i64 t.kind, .int .i64 t.n, .string ⟨t.s.toArray⟩, .slice b1 t.keys.length d1, .slice b2 t.l.length d2] 25)).alloc (.cells #[.string ⟨p.toArray⟩] 9) := ⟨_, rfl⟩
  have BW : Hid (Below w.heap.size w W3) := hidI (by rw [hW3]; exact B3.out _ _ _)
  have X1 : Hid (W3.heap[w.heap.size]? = some (.cells #[.int .i64 want.kind, .int .i64 want.n, .string ⟨want.s.toArray⟩, .slice a1 want.keys.length c1, .slice a2 want.l.length c2, .slice a3 L.length c3] 53)) := hidI (by rw [hW3]; exact h3a _ _ _ _)
  have X2 : Hid (BoxIs W3 (w.heap.size + 1) (.int .i64 t.kind) (.int .i64 t.n) (.string ⟨t.s.toArray⟩) (.slice b1 t.keys.length d1) (.slice b2 t.l.length d2)) := hidI (by rw [hW3]; exact h3b _ _ _ _)
  have X3 : Hid (W3.cell? ⟨w.heap.size + 2, 0, none⟩ = some (.string ⟨p.toArray⟩)) := hidI (by
    have h9 : W3.heap[w.heap.size + 2]? = some (.cells #[.string ⟨p.toArray⟩] 9) := by rw [hW3]; exact h3c _ _ _ _
    simp [World.cell?, h9])
  have HW3 := hidI hW3
  clear hW3
  have FX : Hid (∀ W, Below W3.heap.size W3 W → W.cell? ⟨w.heap.size + 2, 0, none⟩ = some (.string ⟨p.toArray⟩)) := hidI (fun W hW => cell_bel hW X3.out)
  go_enter Tryz.func25, Tryz.ntmps25
  go_upto_region 1 with fail
  rw [← HW3.out]
  obtain ⟨q0, q1, q2, q3, q4, q5⟩ := box6 X1.out
  have q6 := X3.out
  cases hc : L.contains p with
  | true =>
    have R2 : Hid (o9 = o1) := hidI (by rw [R.out, hc]; rfl)
    have HL2 := hidI (HL.out W3 BW.out)
    rw [hc] at HL2
    clear hc
    go_upto_region 2 with (go_at_call 51; refine HL2.out.mono ?_; rintro e w4 ⟨rfl, hb4⟩; have B4 := hidI hb4; clear hb4 q0 q1 q2 q3 q4 q5 q6)
    have BW4 := hidI (bel_trans BW.out B4.out)
    obtain ⟨q0, q1, q2, q3, q4, q5⟩ := box6 (blk_bel B4.out X1.out)
    obtain ⟨p0, p1, p2, p3, p4, -⟩ := (box_bel B4.out X2.out).c
    have q6 := FX.out _ B4.out
    go_wp2_with (go_at_call 52; refine (HO.out _ BW4.out).mono ?_; rintro e w5 ⟨rfl, hb5⟩; have B5 := hidI (bel_trans BW4.out hb5); clear hb5)
    go_ret
    exact ⟨by rw [R2.out]; rfl, B5.out⟩
  | false =>
    have R2 : Hid (o9 = o2) := hidI (by rw [R.out, hc]; rfl)
    have HL2 := hidI (HL.out W3 BW.out)
    rw [hc] at HL2
    clear hc
    go_upto_region 3 with (go_at_call 51; refine HL2.out.mono ?_; rintro e w4 ⟨rfl, hb4⟩; have B4 := hidI hb4; clear hb4 q0 q1 q2 q3 q4 q5 q6)
    have BW4 := hidI (bel_trans BW.out B4.out)
    obtain ⟨q0, q1, q2, q3, q4, q5⟩ := box6 (blk_bel B4.out X1.out)
    have q6 := hidI (FX.out _ B4.out)
    go_wp2_with (go_at_call 53; refine (HC.out _ _ BW4.out q6.out).mono ?_; rintro e w5 ⟨rfl, hb5⟩; have B5 := hidI (bel_trans BW4.out hb5); clear hb5)
    go_ret
    exact ⟨by rw [R2.out]; rfl, B5.out⟩

/- Whether somebody has that path, or one above it or below. -/
set_option maxRecDepth 100000 in
theorem conc11_at (w : World) (q p : List UInt8) (gp : Nat) (hc : w.cell? ⟨gp, 0, none⟩ = some (.string ⟨p.toArray⟩)) :
    Calls Tryz.prog 86 #[.string ⟨q.toArray⟩, .pointer (some ⟨gp, 0, none⟩)] w fun e w' => e = .returned (.bool (q == p || aboveP q p || aboveP p q)) ∧ w' = w := by
  have A1 := above_p w q p
  have A2 := above_p w p q
  generalize aboveP q p = o1 at A1 ⊢
  generalize aboveP p q = o2 at A2 ⊢
  cases hqp : q == p with
  | true =>
    have e1 : ((ByteArray.mk q.toArray) == (ByteArray.mk p.toArray)) = true := ba_eq (by simpa using hqp)
    go_enter Tryz.func86, Tryz.ntmps86
    go_wp2_with fail
    go_ret
    exact ⟨by first | done | rfl | simp, rfl⟩
  | false =>
    have e1 : ((ByteArray.mk q.toArray) == (ByteArray.mk p.toArray)) = false := ba_ne (by simpa using hqp)
    cases o1 with
    | true =>
      go_enter Tryz.func86, Tryz.ntmps86
      go_wp2_with fail
      refine A1.mono ?_
      rintro e w1 ⟨rfl, hw⟩
      have hw' := hw.symm
      subst hw'
      clear hw A1 A2
      go_wp2_with fail
      go_ret
      exact ⟨by first | done | rfl | simp, rfl⟩
    | false =>
      go_enter Tryz.func86, Tryz.ntmps86
      go_wp2_with fail
      refine A1.mono ?_
      rintro e w1 ⟨rfl, hw⟩
      have hw' := hw.symm
      subst hw'
      clear hw A1
      go_wp2_with fail
      refine A2.mono ?_
      rintro e w2 ⟨rfl, hw⟩
      have hw' := hw.symm
      subst hw'
      clear hw A2
      go_wp2_with fail
      go_ret
      exact ⟨by first | done | rfl | (simp; rfl), rfl⟩
theorem conc11_enters : ∀ args w, (callFunc 86 args).run Tryz.prog w = .ok (.enter 86 args) w := enters_of Tryz.func86 (by kernel_rfl) rfl
theorem conc1_enters : ∀ args w, (callFunc 85 args).run Tryz.prog w = .ok (.enter 85 args) w := enters_of Tryz.func85 (by kernel_rfl) rfl
set_option maxRecDepth 100000 in
theorem conc1_at (w : World) (ok : Nat → Prop) (o : Own) (pa : Option Addr) (pc : Nat) (p : List UInt8) (gp : Nat) (hs : StrsAre w ok o.paths (.slice pa o.paths.length pc)) (hc : w.cell? ⟨gp, 0, none⟩ = some (.string ⟨p.toArray⟩)) :
    Calls Tryz.prog 85 #[.agg #[.string ⟨o.name.toArray⟩, .slice pa o.paths.length pc], .pointer (some ⟨gp, 0, none⟩)] w fun e w' => e = .returned (.bool (o.paths.any fun q => q == p || aboveP q p || aboveP p q)) ∧ Below w.heap.size w w' := by
  have ll := hs.1
  unfold maxLen at ll
  have HC : Hid (∀ (W : World), Below w.heap.size w W → Calls Tryz.prog 53 #[.slice pa o.paths.length pc, .func (.func 86) #[] #[.pointer (some ⟨gp, 0, none⟩)]] W fun e w' => e = .returned (.bool (o.paths.any fun q => q == p || aboveP q p || aboveP p q)) ∧ Below W.heap.size W w') := hidI (fun W hW => containsS_at W ok o.paths _ _ _ _ (hs.imp fun a x h1 h2 => ⟨h1, cell_bel hW h2⟩) conc11_enters (fun W2 x hb _ => (conc11_at W2 x p gp (cell_bel hb (cell_bel hW hc))).mono fun e w' h => ⟨h.1, by rw [h.2]; exact Below.refl _ _⟩))
  generalize (o.paths.any fun q => q == p || aboveP q p || aboveP p q) = o2 at HC ⊢
  clear hs hc
  go_enter Tryz.func85, Tryz.ntmps85
  go_wp2_with (go_at_call 53; refine (HC.out _ (bel_alloc _ _)).mono ?_; rintro e w5 ⟨rfl, hb5⟩; have B5 := hidI (bel_trans (bel_alloc _ _) hb5); clear hb5)
  go_ret
  exact ⟨rfl, B5.out⟩
set_option maxRecDepth 100000 in
theorem concerned_at (w : World) (ok : Nat → Prop) (l : List Own) (v : Value) (p : List UInt8) (h : OwnsAre w ok l v) :
    Calls Tryz.prog 59 #[v, .string ⟨p.toArray⟩] w fun e w' => e = .returned (.bool (concF l p)) ∧ Below w.heap.size w w' := by
  obtain ⟨a, c, rfl⟩ := h.form
  have ll := h.1
  unfold maxLen at ll
  have HC : Hid (∀ (W : World) (gp : Nat), Below w.heap.size w W → W.cell? ⟨gp, 0, none⟩ = some (.string ⟨p.toArray⟩) → Calls Tryz.prog 84 #[.slice a l.length c, .func (.func 85) #[] #[.pointer (some ⟨gp, 0, none⟩)]] W fun e w' => e = .returned (.bool (concF l p)) ∧ Below W.heap.size W w') := hidI (fun W gp hW hcl => containsO_at W ok l _ _ _ _ (h.bel hW) conc1_enters (fun W2 x pa pc hb _ hs => conc1_at W2 ok x pa pc p gp hs (cell_bel hb hcl)))
  have CP : Hid ((w.alloc (.cells #[.string ⟨p.toArray⟩] 9)).cell? ⟨w.heap.size, 0, none⟩ = some (.string ⟨p.toArray⟩)) := hidI (by
    have h9 := heap_alloc_new w (.cells #[.string ⟨p.toArray⟩] 9)
    generalize w.alloc (.cells #[.string ⟨p.toArray⟩] 9) = W2 at h9
    simp [World.cell?, h9])
  generalize concF l p = o2 at HC ⊢
  clear h
  go_enter Tryz.func59, Tryz.ntmps59
  go_wp2_with (go_at_call 84; refine (HC.out _ _ (bel_alloc _ _) CP.out).mono ?_; rintro e w5 ⟨rfl, hb5⟩; have B5 := hidI (bel_trans (bel_alloc _ _) hb5); clear hb5)
  go_ret
  exact ⟨rfl, B5.out⟩
end Go.Proofs.YtmdemcjmcnfjmaaGreatDoor

/- A list behind a box, that grows by one and one; what the function that Conflicts of package owner hands over does. -/
set_option linter.unusedSimpArgs false
set_option linter.unusedVariables false
namespace Go.Proofs.YtmdemcjmcnfjmaaGreatDoor
open Go.RowKit

theorem info85 : (Tryz.prog.info? 85).map (fun i => (i.zero, i.size, i.bytes)) = some (some (.agg #[.string ⟨#[]⟩, .string ⟨#[]⟩]), 2, 32) := by kernel_rfl
theorem info41 : (Tryz.prog.info? 41).map (fun i => (i.zero, i.size, i.bytes)) = some (some (.agg #[.string ⟨#[]⟩, .slice none 0 0]), 2, 40) := by kernel_rfl
theorem run_pushC {W : World} {B : Nat} {v : Value} {n : Nat} {cs : List Value} {nb : Nat} {k q : ByteArray} (ho : W.ownsRow B 85 2 v n cs) (hnb : W.heap[nb]? = some (.cells #[.string k, .string q] 85)) (hn : n ≤ 4000000) (hB : B ≤ W.heap.size) (ty : TypeId) :
    ∃ g cap W', (Builtin.append_ #[27, 27] ty #[v, .slice (some ⟨nb, 0, none⟩) 1 1]).run Tryz.prog W = .ok (.slice (some ⟨g, 0, none⟩) (n + 1) cap) W' ∧ W'.ownsRow B 85 2 (.slice (some ⟨g, 0, none⟩) (n + 1) cap) (n + 1) (cs ++ [.string k, .string q]) ∧ W.grownBy W' v.ownBlock ∧ (v.ownBlock = some g ∨ W.heap.size = g) := by
  obtain ⟨i0, hi, hz0, hz1, hz2⟩ := info_parts info85
  obtain ⟨g, cap, W', hr, h1, h2, h3, -⟩ := run_append_lies (P := Tryz.prog) W 27 ty B 85 i0 _ 2 32 Tryz.underlying27 hi hz0 hz1 hz2 rfl (by decide) v n cs ho ⟨nb, 0, none⟩ 1 1 [.string k, .string q] rfl
    (World.news_of_block (cs := #[.string k, .string q]) hnb) (by intro u hu; simp only [List.mem_cons, List.not_mem_nil, or_false] at hu; rcases hu with rfl | rfl <;> rfl) (by decide) (by unfold maxLen; omega) (by omega) hB W.heap.size rfl
  exact ⟨g, cap, W', hr, h1, h2, h3.imp id Eq.symm⟩
theorem run_pushO {W : World} {B : Nat} {v : Value} {n : Nat} {cs : List Value} {nb : Nat} {k : ByteArray} {pa : Option Addr} {pn pc : Nat} (ho : W.ownsRow B 41 2 v n cs) (hnb : W.heap[nb]? = some (.cells #[.string k, .slice pa pn pc] 41)) (hn : n ≤ 4000000) (hB : B ≤ W.heap.size) (ty : TypeId) :
    ∃ g cap W', (Builtin.append_ #[26, 26] ty #[v, .slice (some ⟨nb, 0, none⟩) 1 1]).run Tryz.prog W = .ok (.slice (some ⟨g, 0, none⟩) (n + 1) cap) W' ∧ W'.ownsRow B 41 2 (.slice (some ⟨g, 0, none⟩) (n + 1) cap) (n + 1) (cs ++ [.string k, .slice pa pn pc]) ∧ W.grownBy W' v.ownBlock ∧ (v.ownBlock = some g ∨ W.heap.size = g) := by
  obtain ⟨i0, hi, hz0, hz1, hz2⟩ := info_parts info41
  obtain ⟨g, cap, W', hr, h1, h2, h3, -⟩ := run_append_lies (P := Tryz.prog) W 26 ty B 41 i0 _ 2 40 Tryz.underlying26 hi hz0 hz1 hz2 rfl (by decide) v n cs ho ⟨nb, 0, none⟩ 1 1 [.string k, .slice pa pn pc] rfl
    (World.news_of_block (cs := #[.string k, .slice pa pn pc]) hnb) (by intro u hu; simp only [List.mem_cons, List.not_mem_nil, or_false] at hu; rcases hu with rfl | rfl <;> rfl) (by decide) (by unfold maxLen; omega) (by omega) hB W.heap.size rfl
  exact ⟨g, cap, W', hr, h1, h2, h3.imp id Eq.symm⟩
/- The list lies in the box behind w0; of the blocks F it keeps off. -/
def AccI (w0 : World) (L T : TypeId) (sz : Nat) (cells : List Value) (n : Nat) (F : Nat → Prop) (W : World) : Prop :=
  Below w0.heap.size w0 W ∧ ∃ fv, W.heap[w0.heap.size]? = some (.cells #[fv] L) ∧ W.ownsRow (w0.heap.size + 1) T sz fv n cells ∧ ∀ k, F k → k ≠ w0.heap.size ∧ some k ≠ fv.ownBlock
theorem AccI.bel {w0 : World} {L T : TypeId} {sz : Nat} {cells : List Value} {n : Nat} {F : Nat → Prop} {W W' : World} (h : AccI w0 L T sz cells n F W) (hb : Below W.heap.size W W') : AccI w0 L T sz cells n F W' := by
  obtain ⟨h1, fv, h2, h3, h4⟩ := h
  exact ⟨h1.trans (hb.mono h1.size), fv, blk_bel hb h2, own_same h3 fun g hg => hb.block g (own_lt h3 hg).2, h4⟩
theorem AccI.alloc {w0 : World} {L T : TypeId} {sz : Nat} {cells : List Value} {n : Nat} {F : Nat → Prop} {W : World} (h : AccI w0 L T sz cells n F W) (o : Obj) : AccI w0 L T sz cells n (fun k => F k ∨ k = W.heap.size) (W.alloc o) := by
  obtain ⟨h1, fv, h2, h3, h4⟩ := h.bel (bel_alloc W o)
  obtain ⟨-, fv', h2', h3', -⟩ := h
  refine ⟨h1, fv, h2, h3, fun k hk => ?_⟩
  rcases hk with hk | rfl
  · exact h4 k hk
  · have e : fv = fv' := by
      have := blk_bel (bel_alloc W o) h2'
      rw [h2] at this
      simp only [Option.some.injEq, Obj.cells.injEq, Array.mk.injEq, List.cons.injEq, and_true] at this
      exact this
    subst e
    have hlt := (Array.getElem?_eq_some_iff.1 h2').1
    exact ⟨by omega, fun e => by have := (own_lt h3' e.symm).2; omega⟩
theorem AccI.low {w0 : World} {L T : TypeId} {sz : Nat} {cells : List Value} {n : Nat} {F G : Nat → Prop} {W : World} (h : AccI w0 L T sz cells n F W) (hk : ∀ k, G k → F k) : AccI w0 L T sz cells n G W := by
  obtain ⟨h1, fv, h2, h3, h4⟩ := h
  exact ⟨h1, fv, h2, h3, fun k hg => h4 k (hk k hg)⟩
theorem acc_start (w0 : World) (L T : TypeId) (sz : Nat) : AccI w0 L T sz [] 0 (fun k => k < w0.heap.size) (w0.alloc (.cells #[.slice none 0 0] L)) :=
  ⟨bel_alloc _ _, _, heap_alloc_new _ _, World.ownsRow_nil _ _ _ _, fun k hk => ⟨by omega, by simp [Value.ownBlock]⟩⟩
/- One more. -/
theorem acc_push {w0 : World} {L T : TypeId} {sz : Nat} {cells news : List Value} {n : Nat} {F : Nat → Prop} {wc W' : World} {o : Obj} {fv : Value} {g cap : Nat} (h1 : Below w0.heap.size w0 wc) (h2 : wc.heap[w0.heap.size]? = some (.cells #[fv] L)) (h3 : wc.ownsRow (w0.heap.size + 1) T sz fv n cells) (h4 : ∀ k, F k → k ≠ w0.heap.size ∧ some k ≠ fv.ownBlock)
    (ho : W'.ownsRow (w0.heap.size + 1) T sz (.slice (some ⟨g, 0, none⟩) (n + 1) cap) (n + 1) (cells ++ news)) (hg : (wc.alloc o).grownBy W' fv.ownBlock) (hf : fv.ownBlock = some g ∨ (wc.alloc o).heap.size = g) (hF : ∀ k, F k → k < wc.heap.size) :
    AccI w0 L T sz (cells ++ news) (n + 1) F (W'.setCell ⟨w0.heap.size, 0, none⟩ (.slice (some ⟨g, 0, none⟩) (n + 1) cap)) ∧ wc.heap.size ≤ (W'.setCell ⟨w0.heap.size, 0, none⟩ (.slice (some ⟨g, 0, none⟩) (n + 1) cap)).heap.size ∧ ∀ k, F k → k < wc.heap.size → (W'.setCell ⟨w0.heap.size, 0, none⟩ (.slice (some ⟨g, 0, none⟩) (n + 1) cap)).heap[k]? = wc.heap[k]? := by
  have ha := bel_alloc wc o
  have hgo := (own_lt ho (g := g) rfl).1
  have hgl : w0.heap.size < wc.heap.size := (Array.getElem?_eq_some_iff.1 h2).1
  have hrow : ∀ k, fv.ownBlock = some k → w0.heap.size + 1 ≤ k := fun k hk => (own_lt h3 hk).1
  have hW : ∀ k, k < wc.heap.size → some k ≠ fv.ownBlock → W'.heap[k]? = wc.heap[k]? := fun k hk hr => by
    rw [hg.block k (Nat.lt_of_lt_of_le hk ha.size) hr, ha.block k hk]
  have hbox : W'.heap[w0.heap.size]? = some (.cells #[fv] L) := by
    rw [hW _ hgl (fun e => by have := hrow _ e.symm; omega), h2]
  have hset : ∀ k, k ≠ w0.heap.size → (W'.setCell ⟨w0.heap.size, 0, none⟩ (.slice (some ⟨g, 0, none⟩) (n + 1) cap)).heap[k]? = W'.heap[k]? := fun k hk => Below.heap_setCell W' ⟨w0.heap.size, 0, none⟩ _ k hk
  have hsz : wc.heap.size ≤ (W'.setCell ⟨w0.heap.size, 0, none⟩ (.slice (some ⟨g, 0, none⟩) (n + 1) cap)).heap.size := by
    have h1 := ha.size
    have h2 := hg.size
    simp only [World.setCell, Array.size_modify]
    omega
  refine ⟨⟨⟨hg.os.trans (ha.os.trans h1.os), hg.tape.trans (ha.tape.trans h1.tape), hg.output.trans (ha.output.trans h1.output), Nat.le_trans h1.size hsz, fun k hk => ?_⟩, _, heap_set hbox 0 _, ?_, fun k hk => ⟨(h4 k hk).1, ?_⟩⟩, hsz, fun k hk hlt => ?_⟩
  · rw [hset k (by omega), hW k (by omega) (fun e => by have := hrow _ e.symm; omega), h1.block k hk]
  · refine own_same ho fun g' hg' => hset g' ?_
    have e9 : g = g' := by simpa [Value.ownBlock] using hg'
    omega
  · have h9 := hF k hk
    have h8 := (h4 k hk).2
    rcases hf with hf | hf
    · rw [hf] at h8; simpa [Value.ownBlock] using h8
    · have := ha.size
      simp only [Value.ownBlock, ne_eq, Option.some.injEq]
      omega
  · rw [hset k (h4 k hk).1, hW k hlt (h4 k hk).2]
/- Conflicts. -/
def cCells (cs : List (List UInt8 × List UInt8)) : List Value := cs.flatMap fun c => [.string ⟨c.1.toArray⟩, .string ⟨c.2.toArray⟩]
def pick (who : List UInt8) (blk : List UInt8 → Bool) (d : List (List UInt8 × List UInt8)) : List (List UInt8 × List UInt8) := d.filter fun c => c.1 != who && blk c.2
theorem found_pick (blk : List UInt8 → Bool) (who : List UInt8) (l : List Own) : foundF blk who l = pick who blk (allOf l) := by
  unfold foundF pick allOf
  rw [List.filter_flatMap]
  congr 1
  funext o
  rw [List.filter_map]; rfl
def ConI (w0 : World) (who : List UInt8) (blk : List UInt8 → Bool) (N : Nat) (d : List (List UInt8 × List UInt8)) (F : Nat → Prop) (W : World) : Prop :=
  AccI w0 27 85 2 (cCells (pick who blk d)) (pick who blk d).length F W ∧ (∀ k, F k → k < W.heap.size)
end Go.Proofs.YtmdemcjmcnfjmaaGreatDoor

/- A region that draws its order, and at its end writes the very cells that it read: loads may be taken first where whatever writes waits for them. -/
set_option linter.unusedSimpArgs false
set_option linter.unusedVariables false
namespace Go.Proofs.YtmdemcjmcnfjmaaGreatDoor
open Go

section
variable {P : Program} {ops : Array Oper} {Q : Exit → Act → World → Prop} {md : Region.Mode} {S : World → Prop} {T : List Nat}

def untilB (T : List Nat) (listed : Array Bool) : Bool := T.all fun t => listed.getD t true == false
/- Whatever order is picked, and S holds behind each operation while none of T has come up. -/
def wpAnyT (P : Program) (md : Region.Mode) (ops : Array Oper) (Q : Exit → Act → World → Prop) (S : World → Prop) (T : List Nat) : Nat → Array Bool → Act → World → Prop
  | 0, listed, a, w => Region.ready md ops listed = [] ∧ Q .normal a w
  | fuel + 1, listed, a, w =>
    (Region.ready md ops listed = [] → Q .normal a w) ∧
    ∀ i ∈ Region.ready md ops listed, wpOp P ops Q i (fun a' w' => (untilB T (listed.setIfInBounds i true) = true → S w') ∧ wpAnyT P md ops Q S T fuel (listed.setIfInBounds i true) a' w') a w
theorem wpAny_of_T : ∀ (fuel : Nat) (listed : Array Bool) (a : Act) (w : World), wpAnyT P md ops Q S T fuel listed a w → wpAny P md ops Q fuel listed a w
  | 0, _, _, _, h => h
  | fuel + 1, _, _, _, h => ⟨h.1, fun i hi => wpOp_mono (fun a' w' h' => wpAny_of_T fuel _ a' w' h'.2) (h.2 i hi)⟩
/- All of D wait for number i. -/
def behindB (md : Region.Mode) (ops : Array Oper) (listed : Array Bool) (i : Nat) (T D : List Nat) : Bool :=
  (D.all fun d => (match ops[d]? with | some o => o.after.any fun e => Region.binds md e && (e.on == i || D.contains e.on) | none => false) && listed.getD d true == false) && T.all fun t => D.contains t
theorem behind_not {listed : Array Bool} {i : Nat} {D : List Nat} (hD : ∀ d ∈ D, (∃ o, ops[d]? = some o ∧ ∃ e ∈ o.after, Region.binds md e = true ∧ (e.on = i ∨ e.on ∈ D)) ∧ listed.getD d true = false) (hi : listed.getD i true = false) {j : Nat} (hj : j ∈ Region.ready md ops listed) : j ∉ D := by
  intro hjD
  obtain ⟨⟨o, ho, e, he, hb, hon⟩, -⟩ := hD j hjD
  obtain ⟨-, oj, hoj, hall⟩ := mem_ready.1 hj
  rw [ho] at hoj
  cases hoj
  have h1 := hall e he hb
  have h0 : listed.getD e.on true = false := by
    rcases hon with h | h
    · rw [h]; exact hi
    · exact (hD _ h).2
  rcases Nat.lt_or_ge e.on listed.size with h' | h'
  · simp [h'] at h0 h1; rw [h0] at h1; cases h1
  · simp [Array.getElem?_eq_none h'] at h1
theorem until_of {listed : Array Bool} {i : Nat} {T D : List Nat} (hT : ∀ t ∈ T, t ∈ D) (hD : ∀ d ∈ D, listed.getD d true = false) (hi : i ∉ D) : untilB T (listed.setIfInBounds i true) = true := by
  unfold untilB
  rw [List.all_eq_true]
  intro t ht
  have : i ≠ t := fun e => hi (e ▸ hT t ht)
  rw [getD_set_ne true this, hD t (hT t ht)]; rfl
theorem wpAnyT_first {i : Nat} {oi : Oper} {v : Value} {D : List Nat} (hi : ops[i]? = some oi) (hsel : ∀ (j : Nat) (o : Oper) cs b, ops[j]? = some o → o.op ≠ .select cs b)
    (hQ : ∀ c a w, Q (.panic c) (a.put oi.dst v) w → Q (.panic c) a w) (hTD : ∀ t ∈ T, t ∈ D) :
    ∀ (fuel : Nat) (listed : Array Bool) (a : Act) (w : World),
      (∀ j oj, ops[j]? = some oj → j ≠ i → listed.getD j true = false → (∀ e ∈ oj.after, Region.binds md e = true → e.on ≠ i) → oi.apart ops oj = true) →
      (∀ d ∈ D, (∃ o, ops[d]? = some o ∧ ∃ e ∈ o.after, Region.binds md e = true ∧ (e.on = i ∨ e.on ∈ D)) ∧ listed.getD d true = false) →
      i ∈ Region.ready md ops listed → YieldsIf P ops S oi v a → S w →
      wpAnyT P md ops Q S T fuel (listed.setIfInBounds i true) (a.put oi.dst v) w → wpAnyT P md ops Q S T (fuel + 1) listed a w := by
  intro fuel
  induction fuel with
  | zero =>
    intro listed a w _ hD hr hy hS H
    refine ⟨fun h => (by rw [h] at hr; cases hr), fun j hj => ?_⟩
    by_cases hji : j = i
    · subst hji; exact hy.wpOp hi hS ⟨fun _ => hS, H⟩
    · have := ready_mono hj hji
      rw [H.1] at this
      cases this
  | succ fuel ih =>
    intro listed a w hfree hD hr hy hS H
    have hi0 : listed.getD i true = false := by
      obtain ⟨h0, -⟩ := mem_ready.1 hr
      exact h0
    refine ⟨fun h => (by rw [h] at hr; cases hr), fun j hj => ?_⟩
    by_cases hji : j = i
    · subst hji; exact hy.wpOp hi hS ⟨fun _ => hS, H⟩
    · have h1 := H.2 j (ready_mono hj hji)
      obtain ⟨hjun, oj, hoj, hall⟩ := mem_ready.1 hj
      have hnot : ∀ e ∈ oj.after, Region.binds md e = true → e.on ≠ i := fun e he hb heq => by
        have h1 := hall e he hb
        have h0 := (mem_ready.1 hr).1
        rw [heq] at h1
        rcases Nat.lt_or_ge i listed.size with h' | h'
        · simp [h'] at h0 h1; rw [h0] at h1; cases h1
        · simp [Array.getElem?_eq_none h'] at h1
      have hjD : j ∉ D := behind_not hD hi0 hj
      have hiD : i ∉ D := behind_not hD hi0 hr
      have h2 := wpOp_putIf hoj (hfree j oj hoj hji hjun hnot) (fun cs b => hsel i oi cs b hi) (fun cs b => hsel j oj cs b hoj) hQ hy h1
      have hfree' : ∀ k ok, ops[k]? = some ok → k ≠ i → (listed.setIfInBounds j true).getD k true = false →
          (∀ e ∈ ok.after, Region.binds md e = true → e.on ≠ i) → oi.apart ops ok = true := fun k ok hk hki hun hno => by
        refine hfree k ok hk hki ?_ hno
        by_cases hjk : j = k
        · subst hjk; exact hjun
        · rw [getD_set_ne true hjk] at hun; exact hun
      have hD' : ∀ d ∈ D, (∃ o, ops[d]? = some o ∧ ∃ e ∈ o.after, Region.binds md e = true ∧ (e.on = i ∨ e.on ∈ D)) ∧ (listed.setIfInBounds j true).getD d true = false := fun d hd => by
        refine ⟨(hD d hd).1, ?_⟩
        have : j ≠ d := fun e => hjD (e ▸ hd)
        rw [getD_set_ne true this]; exact (hD d hd).2
      have hu : untilB T (((listed.setIfInBounds i true)).setIfInBounds j true) = true := until_of hTD (fun d hd => by
        have : i ≠ d := fun e => hiD (e ▸ hd)
        rw [getD_set_ne true this]; exact (hD d hd).2) hjD
      refine wpOp_mono (fun a' w' h3 => ⟨fun _ => h3.2.1 hu, ih (listed.setIfInBounds j true) a' w' hfree' hD' (ready_mono hr (Ne.symm hji)) h3.1 (h3.2.1 hu) ?_⟩) h2
      rw [Array.setIfInBounds_comm _ _ hji]
      exact h3.2.2
/- Take number i first. -/
theorem wpAnyT_take {i : Nat} {oi : Oper} {v : Value} {fuel : Nat} {listed : Array Bool} {a : Act} {w : World} (D : List Nat) (hi : ops[i]? = some oi)
    (hs : Region.noSelect ops = true) (hf : Region.free md ops listed i = true) (hr : (Region.ready md ops listed).contains i = true) (hB : behindB md ops listed i T D = true)
    (hQ : ∀ c a w, Q (.panic c) (a.put oi.dst v) w → Q (.panic c) a w) (hy : YieldsIf P ops S oi v a) (hS : S w)
    (h : wpAnyT P md ops Q S T fuel (listed.setIfInBounds i true) (a.put oi.dst v) w) : wpAnyT P md ops Q S T (fuel + 1) listed a w := by
  unfold behindB at hB
  rw [Bool.and_eq_true, List.all_eq_true, List.all_eq_true] at hB
  refine wpAnyT_first (D := D) hi (Region.noSelect_spec hs) hQ (fun t ht => by simpa using hB.2 t ht) fuel listed a w (Region.free_spec hi hf) (fun d hd => ?_) (by simpa using hr) hy hS h
  have h1 := hB.1 d hd
  rw [Bool.and_eq_true] at h1
  refine ⟨?_, by simpa using h1.2⟩
  cases ho : ops[d]? with
  | none => rw [ho] at h1; simp at h1
  | some o =>
    rw [ho] at h1
    have h2 := h1.1
    simp only [Array.any_eq_true] at h2
    obtain ⟨k, hk, h3⟩ := h2
    refine ⟨o, rfl, o.after[k], Array.getElem_mem hk, ?_⟩
    simpa using h3
/- Each of rs comes up next. -/
def AllReadyT (P : Program) (md : Region.Mode) (ops : Array Oper) (Q : Exit → Act → World → Prop) (S : World → Prop) (T : List Nat) (fuel : Nat) (listed : Array Bool) (a : Act) (w : World) (rs : List Nat) : Prop :=
  ∀ i ∈ rs, wpOp P ops Q i (fun a' w' => (untilB T (listed.setIfInBounds i true) = true → S w') ∧ wpAnyT P md ops Q S T fuel (listed.setIfInBounds i true) a' w') a w
theorem AllReadyT.nil {fuel : Nat} {listed : Array Bool} {a : Act} {w : World} : AllReadyT P md ops Q S T fuel listed a w [] := fun _ h => by cases h
/- An operation ahead of T: S is shown anew, and handed on. -/
theorem AllReadyT.cons {fuel : Nat} {listed : Array Bool} {a : Act} {w : World} {i : Nat} {o : Oper} {rs : List Nat} (ho : ops[i]? = some o)
    (h : ∀ K' : Act → World → Prop, Shut (∀ a w, S w → (S w → wpAnyT P md ops Q S T fuel (listed.setIfInBounds i true) a w) → K' a w) → if Region.wanted o (yielded ops a.tmps) = true then Oper.wp P o a w K' Q else K' (a.put o.dst undef) w)
    (hs : AllReadyT P md ops Q S T fuel listed a w rs) : AllReadyT P md ops Q S T fuel listed a w (i :: rs) := fun j hj => by
  rcases List.mem_cons.1 hj with rfl | hj
  · exact wpOp_step ho (fun K' hK => h K' (fun a w hS hW => hK a w ⟨fun _ => hS, hW hS⟩))
  · exact hs j hj
theorem wpAnyT_ready {rs : List Nat} {fuel : Nat} {listed : Array Bool} {a : Act} {w : World} (hr : Region.ready md ops listed = rs) (hne : rs ≠ [])
    (h : AllReadyT P md ops Q S T fuel listed a w rs) : wpAnyT P md ops Q S T (fuel + 1) listed a w := ⟨fun h0 => absurd (hr ▸ h0) hne, hr ▸ h⟩
/- An operation of T, or behind it, that comes up alone. -/
theorem wpAnyT_last {i : Nat} {o : Oper} {fuel : Nat} {listed : Array Bool} {a : Act} {w : World} (hr : Region.ready md ops listed = [i]) (hu : untilB T (listed.setIfInBounds i true) = false) (ho : ops[i]? = some o)
    (h : ∀ K' : Act → World → Prop, Shut (∀ a w, wpAnyT P md ops Q S T fuel (listed.setIfInBounds i true) a w → K' a w) → if Region.wanted o (yielded ops a.tmps) = true then Oper.wp P o a w K' Q else K' (a.put o.dst undef) w) :
    wpAnyT P md ops Q S T (fuel + 1) listed a w := by
  refine ⟨fun h0 => (by rw [hr] at h0; cases h0), fun j hj => ?_⟩
  rw [hr, List.mem_singleton] at hj
  subst hj
  exact wpOp_step ho (fun K' hK => h K' (fun a w hW => hK a w ⟨fun h => absurd h (by rw [hu]; simp), hW⟩))
theorem wpAnyT_done {listed : Array Bool} {a : Act} {w : World} (hr : Region.ready md ops listed = []) (h : Q .normal a w) :
    ∀ fuel, wpAnyT P md ops Q S T fuel listed a w
  | 0 => ⟨hr, h⟩
  | _ + 1 => ⟨fun _ => h, by rw [hr]; simp⟩
theorem wp_region_T {id : Nat} {a : Act} {w : World} (S : World → Prop) (T : List Nat) (hm : P.follows .mixedOrders = true) (hS : S w.drew)
    (h : S w.drew → wpAnyT P .any ops Q S T ops.size (Array.replicate ops.size false) a w.drew) : (Code.region id ops true).wp P Q a w :=
  wp_region_any hm (wpAny_of_T _ _ _ _ (h hS))
end
end Go.Proofs.YtmdemcjmcnfjmaaGreatDoor

/- A region that draws its order: what yields its value in whatever world is taken first, whatever waits. -/
set_option linter.unusedSimpArgs false
set_option linter.unusedVariables false
namespace Go.Proofs.YtmdemcjmcnfjmaaGreatDoor
open Go

section
variable {P : Program} {ops : Array Oper} {Q : Exit → Act → World → Prop} {md : Region.Mode} {S : World → Prop} {T : List Nat}

theorem until_mono {listed : Array Bool} {i : Nat} {T : List Nat} (h : untilB T (listed.setIfInBounds i true) = true) : untilB T listed = true := by
  unfold untilB at h ⊢
  rw [List.all_eq_true] at h ⊢
  intro t ht
  have h0 := h t ht
  by_cases e : i = t
  · subst e
    by_cases hs : i < listed.size
    · simp [Array.getD, hs] at h0
    · simp [Array.getD, hs] at h0
  · rw [getD_set_ne true e] at h0; exact h0
theorem until_set {listed : Array Bool} {i : Nat} {T : List Nat} (hi : i ∉ T) (h : untilB T listed = true) : untilB T (listed.setIfInBounds i true) = true := by
  unfold untilB at h ⊢
  rw [List.all_eq_true] at h ⊢
  intro t ht
  have e : i ≠ t := fun e => hi (e ▸ ht)
  rw [getD_set_ne true e]; exact h t ht
/- What yields its value in whatever world is taken first whatever waits. -/
theorem wpAnyT_firstY {i : Nat} {oi : Oper} {v : Value} (hi : ops[i]? = some oi) (hsel : ∀ (j : Nat) (o : Oper) cs b, ops[j]? = some o → o.op ≠ .select cs b)
    (hQ : ∀ c a w, Q (.panic c) (a.put oi.dst v) w → Q (.panic c) a w) (hiT : i ∉ T) :
    ∀ (fuel : Nat) (listed : Array Bool) (a : Act) (w : World),
      (∀ j oj, ops[j]? = some oj → j ≠ i → listed.getD j true = false → (∀ e ∈ oj.after, Region.binds md e = true → e.on ≠ i) → oi.apart ops oj = true) →
      i ∈ Region.ready md ops listed → Yields P ops oi v a → (untilB T listed = true → S w) →
      wpAnyT P md ops Q S T fuel (listed.setIfInBounds i true) (a.put oi.dst v) w → wpAnyT P md ops Q S T (fuel + 1) listed a w := by
  intro fuel
  induction fuel with
  | zero =>
    intro listed a w _ hr hy hS H
    refine ⟨fun h => (by rw [h] at hr; cases hr), fun j hj => ?_⟩
    by_cases hji : j = i
    · subst hji; exact hy.wpOp hi ⟨fun h => hS (until_mono h), H⟩
    · have := ready_mono hj hji
      rw [H.1] at this
      cases this
  | succ fuel ih =>
    intro listed a w hfree hr hy hS H
    refine ⟨fun h => (by rw [h] at hr; cases hr), fun j hj => ?_⟩
    by_cases hji : j = i
    · subst hji; exact hy.wpOp hi ⟨fun h => hS (until_mono h), H⟩
    · have h1 := H.2 j (ready_mono hj hji)
      obtain ⟨hjun, oj, hoj, hall⟩ := mem_ready.1 hj
      have hnot : ∀ e ∈ oj.after, Region.binds md e = true → e.on ≠ i := fun e he hb heq => by
        have h1 := hall e he hb
        have h0 := (mem_ready.1 hr).1
        rw [heq] at h1
        rcases Nat.lt_or_ge i listed.size with h' | h'
        · simp [h'] at h0 h1; rw [h0] at h1; cases h1
        · simp [Array.getElem?_eq_none h'] at h1
      have h2 := wpOp_put hoj (hfree j oj hoj hji hjun hnot) (fun cs b => hsel i oi cs b hi) (fun cs b => hsel j oj cs b hoj) hQ hy h1
      have hfree' : ∀ k ok, ops[k]? = some ok → k ≠ i → (listed.setIfInBounds j true).getD k true = false →
          (∀ e ∈ ok.after, Region.binds md e = true → e.on ≠ i) → oi.apart ops ok = true := fun k ok hk hki hun hno => by
        refine hfree k ok hk hki ?_ hno
        by_cases hjk : j = k
        · subst hjk; exact hjun
        · rw [getD_set_ne true hjk] at hun; exact hun
      refine wpOp_mono (fun a' w' h3 => ?_) h2
      have hs : untilB T (listed.setIfInBounds j true) = true → S w' := fun h => h3.2.1 (by rw [Array.setIfInBounds_comm _ _ (Ne.symm hji)]; exact until_set hiT h)
      refine ⟨hs, ih (listed.setIfInBounds j true) a' w' hfree' (ready_mono hr (Ne.symm hji)) h3.1 hs ?_⟩
      rw [Array.setIfInBounds_comm _ _ hji]
      exact h3.2.2
theorem wpAnyT_takeY {i : Nat} {oi : Oper} {v : Value} {fuel : Nat} {listed : Array Bool} {a : Act} {w : World} (hi : ops[i]? = some oi)
    (hs : Region.noSelect ops = true) (hf : Region.free md ops listed i = true) (hr : (Region.ready md ops listed).contains i = true) (hT : T.contains i = false)
    (hQ : ∀ c a w, Q (.panic c) (a.put oi.dst v) w → Q (.panic c) a w) (hy : Yields P ops oi v a) (hS : S w)
    (h : wpAnyT P md ops Q S T fuel (listed.setIfInBounds i true) (a.put oi.dst v) w) : wpAnyT P md ops Q S T (fuel + 1) listed a w :=
  wpAnyT_firstY hi (Region.noSelect_spec hs) hQ (by simpa using hT) fuel listed a w (Region.free_spec hi hf) (by simpa using hr) hy (fun _ => hS) h
end
end Go.Proofs.YtmdemcjmcnfjmaaGreatDoor

/- What Join of package point does. -/
set_option linter.unusedSimpArgs false
set_option linter.unusedVariables false
namespace Go.Proofs.YtmdemcjmcnfjmaaGreatDoor
open Go.RowKit

abbrev IsB (B b : Nat) (l : List UInt8) (w : World) : Prop := Lib.IsBuilderF 74 5 B b (Lib.byteCells l) w
theorem IsB.bel {B b : Nat} {l : List UInt8} {w w' : World} (h : IsB B b l w) (hb : Below w.heap.size w w') : IsB B b l w' := by
  rcases h with ⟨h1, v, h2, h3, h4⟩ | ⟨h1, v, h2, h3, h4⟩
  · exact .inl ⟨h1, v, (hb.block _ (Array.getElem?_eq_some_iff.1 h2).1).trans h2, h3.kept (gb_below (r := none) hb) (by cases v.ownBlock <;> simp), h4⟩
  · exact .inr ⟨h1, v, (hb.block _ (Array.getElem?_eq_some_iff.1 h2).1).trans h2, h3.kept (gb_below (r := none) hb) (by cases v.ownBlock <;> simp), h4⟩
theorem writeByte_at (B b : Nat) (l : List UInt8) (w : World) (h : IsB B b l w) (hl : l.length ≤ 1000000000) (hB : B ≤ w.heap.size) :
    Calls Tryz.prog 42 #[.pointer (some ⟨b, 0, none⟩), .int .u8 47] w fun e w' => e = .returned .nilIface ∧ IsB B b (l ++ [47]) w' ∧ Below B w w' := by
  have hl2 : (Lib.byteCells l).length = l.length := by simp [Lib.byteCells]
  refine (Any.Builder_WriteByte_k Tryz.laysB167 Tryz.laysB_extra B b (Lib.byteCells l) 47 w h (by omega) hB).mono ?_
  rintro e w' ⟨rfl, h1, h2, -⟩
  refine ⟨rfl, .inr ?_, h2⟩
  have e1 : Lib.byteCells (l ++ [47]) = Lib.byteCells l ++ [.int .u8 47] := by simp [Lib.byteCells]
  rw [e1]; exact h1
theorem writeString_at (B b : Nat) (l s : List UInt8) (w : World) (h : IsB B b l w) (hl : l.length ≤ 1000000000) (hs : s.length ≤ 1000000000) (hB : B ≤ w.heap.size) :
    Calls Tryz.prog 43 #[.pointer (some ⟨b, 0, none⟩), .string ⟨s.toArray⟩] w fun e w' => e = .returned (.tuple #[.int .i64 s.length, .nilIface]) ∧ IsB B b (l ++ s) w' ∧ Below B w w' := by
  have hl2 : (Lib.byteCells l).length = l.length := by simp [Lib.byteCells]
  refine (Any.Builder_WriteString_k Tryz.laysB166 Tryz.laysB_extra B b (Lib.byteCells l) ⟨s.toArray⟩ w h (by rw [ba_size]; omega) hB).mono ?_
  rintro e w' ⟨rfl, h1, h2, -⟩
  refine ⟨by rw [ba_size], .inr ?_, h2⟩
  have e1 : Lib.byteCells (l ++ s) = Lib.byteCells l ++ Lib.strCells ⟨s.toArray⟩ := by simp [Lib.byteCells, Lib.strCells]
  rw [e1]; exact h1
theorem string_at (B b : Nat) (l : List UInt8) (w : World) (h : IsB B b l w) (hB : B ≤ w.heap.size) :
    Calls Tryz.prog 45 #[.pointer (some ⟨b, 0, none⟩)] w fun e w' => e = .returned (.string ⟨l.toArray⟩) ∧ Below B w w' := by
  refine (Any.Builder_String_any_k Tryz.laysB169 Tryz.laysB_extra B b l w h hB).mono ?_
  rintro e w' ⟨rfl, -, h2, -⟩
  exact ⟨rfl, h2⟩

set_option maxRecDepth 100000 in
set_option maxHeartbeats 10000000 in
theorem marked_at (w : World) (s : List UInt8) (hs : s.length ≤ 10000000) (hM : GlobM w) :
    Calls Tryz.prog 44 #[str s] w fun e w' => e = .returned (str (markedL s)) ∧ Below w.heap.size w w' := by
  have HM := hidI hM
  clear hM
  unfold str
  go_enter Tryz.func44, Tryz.ntmps44
  go_wp2_with fail
  refine (repl_at _ s [126] [126, 48] (by omega) (by simp) (by simp) (by exact HM.out)).mono ?_
  rintro e w1 ⟨rfl, hb1⟩
  have HB1 := hidI hb1
  have HM1 := hidI (HM.out.bel hb1)
  have hl : (Lib.replaceAll s [126] [126, 48]).length ≤ 2 * s.length := by
    rw [mark1]
    generalize s = s
    induction s with
    | nil => simp
    | cons c s ih =>
      have : (if c = 126 then [126, 48] else [c] : List UInt8).length ≤ 2 := by split <;> simp
      simp only [List.flatMap_cons, List.length_append, List.length_cons]; omega
  clear hb1
  go_wp2_with fail
  refine (repl_at _ (Lib.replaceAll s [126] [126, 48]) [47] [126, 49] (by omega) (by simp) (by simp) (by exact HM1.out)).mono ?_
  rintro e w2 ⟨rfl, hb2⟩
  have HB2 := hidI hb2
  clear hb2
  go_wp2_with fail
  go_ret
  exact ⟨rfl, bel_trans HB1.out HB2.out⟩
theorem join_take {l : List (List UInt8)} {k : Nat} (h : k < l.length) : joinP (l.take (k + 1)) = joinP (l.take k) ++ [47] ++ markedL l[k] := by
  unfold joinP
  rw [List.take_add_one, List.getElem?_eq_getElem h, List.flatMap_append]
  simp
theorem join_part (l : List (List UInt8)) (k : Nat) : (joinP (l.take k)).length ≤ (joinP l).length := by
  have : joinP l = joinP (l.take k) ++ joinP (l.drop k) := by
    unfold joinP
    rw [← List.flatMap_append, List.take_append_drop]
  rw [this, List.length_append]; omega
theorem isB_new (w : World) (o : Obj) (ho : o = .cells #[.pointer none, .slice none 0 0] 74) : IsB w.heap.size w.heap.size [] (w.alloc o) := by
  subst ho
  exact .inl ⟨Nat.le_refl _, .slice none 0 0, heap_alloc_new w _, World.ownsRowF_of (World.ownsRow_nil _ _ _ _), by simp [Value.ownBlock]⟩

set_option maxRecDepth 100000 in
set_option maxHeartbeats 4000000 in
theorem join_at (w : World) (ok : Nat → Prop) (l : List (List UInt8)) (v : Value) (hl : StrsAre w ok l v) (hn : ∀ x ∈ l, x.length ≤ 10000000) (hj : (joinP l).length ≤ 10000000) (hM : GlobM w) :
    Calls Tryz.prog 17 #[v] w fun e w' => e = .returned (str (joinP l)) ∧ Below w.heap.size w w' := by
  obtain ⟨a1, c1, rfl⟩ := hl.form
  have HL := hidI hl
  have HN := hidI hn
  have HM := hidI hM
  have hl1 := hl.1
  unfold maxLen at hl1
  clear hl hn hM
  have S0 : Hid (IsB w.heap.size w.heap.size (joinP (l.take 0)) (w.alloc (.cells #[.pointer none, .slice none 0 0] 74)) ∧ Below w.heap.size w (w.alloc (.cells #[.pointer none, .slice none 0 0] 74))) := ⟨isB_new w _ rfl, bel_alloc _ _⟩
  unfold str
  go_enter Tryz.func17, Tryz.ntmps17
  go_wp2_with fail
  go_loopg [8] l.length (fun gk i wr => ∃ k : Nat, k ≤ l.length ∧ gk = l.length - k ∧ i = .int .i64 k ∧ IsB w.heap.size w.heap.size (joinP (l.take k)) wr ∧ Below w.heap.size w wr)
  case atStart => exact ⟨0, Nat.zero_le _, rfl, rfl, S0.out.1, S0.out.2⟩
  case round =>
    obtain ⟨k, hk, hgk, rfl, hh, hbl⟩ := hrel
    have GK := hidI hgk
    have A : Hid (IsB w.heap.size w.heap.size (joinP (l.take k)) wr ∧ Below w.heap.size w wr) := ⟨hh, hbl⟩
    clear hgk hh hbl
    have hpart := join_part l k
    by_cases hlt : k < l.length
    · obtain ⟨kb, ko, rfl, hc1, hc2, hc⟩ := strs_cells HL.out hlt
      have c9 : wr.cell? ⟨kb, ko + k, none⟩ = some (.string ⟨l[k].toArray⟩) := cell_bel A.out.2 hc
      have hpart2 := join_part l (k + 1)
      have JT := hidI (join_take hlt)
      have hlk : l[k].length ≤ 10000000 := HN.out _ (List.getElem_mem _)
      have hmk : (markedL l[k]).length ≤ 10000000 := by
        have e := congrArg List.length JT.out
        simp only [List.length_append, List.length_cons, List.length_nil] at e
        omega
      clear hc
      unfold maxLen at hc2
      go_wp2_with fail
      refine (writeByte_at w.heap.size w.heap.size (joinP (l.take k)) _ (by exact A.out.1) (by omega) (by exact A.out.2.size)).mono ?_
      rintro e w1 ⟨rfl, hB1, hb1⟩
      have A1 : Hid (IsB w.heap.size w.heap.size (joinP (l.take k) ++ [47]) w1 ∧ Below w.heap.size w w1) := ⟨hB1, A.out.2.trans hb1⟩
      clear hB1 hb1
      have M1 := hidI (HM.out.bel A1.out.2)
      go_wp2_with fail
      refine (marked_at _ l[k] (by omega) (by exact M1.out)).mono ?_
      rintro e w2 ⟨rfl, hb2⟩
      have A2 : Hid (IsB w.heap.size w.heap.size (joinP (l.take k) ++ [47]) w2 ∧ Below w.heap.size w w2) := ⟨A1.out.1.bel hb2, bel_trans A1.out.2 hb2⟩
      clear hb2
      unfold str
      go_wp2_with fail
      refine (writeString_at w.heap.size w.heap.size (joinP (l.take k) ++ [47]) (markedL l[k]) _ (by exact A2.out.1) (by simp only [List.length_append, List.length_cons, List.length_nil]; omega) (by omega) (by exact A2.out.2.size)).mono ?_
      rintro e w3 ⟨rfl, hB3, hb3⟩
      have A3 : Hid (IsB w.heap.size w.heap.size (joinP (l.take (k + 1))) w3 ∧ Below w.heap.size w w3) := ⟨by rw [JT.out]; exact hB3, A2.out.2.trans hb3⟩
      clear hB3 hb3
      go_wp2_with fail
      go_roundg (l.length - (k + 1))
      case measure => rw [GK.out]; omega
      case rel => exact ⟨k + 1, by omega, rfl, by go_num, A3.out.1, A3.out.2⟩
    · have hke : k = l.length := by omega
      subst hke
      have A4 : Hid (IsB w.heap.size w.heap.size (joinP l) wr ∧ Below w.heap.size w wr) := ⟨by have := A.out.1; rwa [List.take_length] at this, A.out.2⟩
      clear A
      go_wp2_with fail
      refine (string_at w.heap.size w.heap.size (joinP l) _ (by exact A4.out.1) (by exact A4.out.2.size)).mono ?_
      rintro e w1 ⟨rfl, hb1⟩
      have HB1 := hidI hb1
      clear hb1
      go_wp2_with fail
      go_ret
      exact ⟨rfl, A4.out.2.trans HB1.out⟩
end Go.Proofs.YtmdemcjmcnfjmaaGreatDoor

/- What gather of package owner does. -/
set_option linter.unusedSimpArgs false
set_option linter.unusedVariables false
namespace Go.Proofs.YtmdemcjmcnfjmaaGreatDoor
open Go.RowKit

theorem rg_str {a W : World} {key : List UInt8} (_ : Below a.heap.size a W) (hk : key.length ≤ maxLen) : StrsAre (W.alloc (.cells #[.string ⟨key.toArray⟩] 9)) (fun _ => True) [key] (.slice (some ⟨W.heap.size, 0, none⟩) 1 1) := one_str W key hk
def ZBox (a W : World) (g : Nat) : Prop := BoxIs W g (.int .i64 0) (.int .i64 0) (.string ⟨#[]⟩) (.slice none 0 0) (.slice none 0 0) ∧ a.heap.size ≤ g
theorem rg_box {a W : World} (h : Below a.heap.size a W) : ZBox a (W.alloc (.cells #[.int .i64 0, .int .i64 0, .string ⟨#[]⟩, .slice none 0 0, .slice none 0 0] 25)) W.heap.size := ⟨heap_alloc_new _ _, h.size⟩
theorem box_belA {a W W' : World} {g : Nat} (hb : Below W.heap.size W W') (h : ZBox a W g) : ZBox a W' g := ⟨box_bel hb h.1, h.2⟩
theorem rg_fin {a W : World} {g : Nat} (h : Below a.heap.size a W) (hz : ZBox a W g) (d0 d1 d2 d3 d4 : Value) : BoxIs (set5 W g d0 d1 d2 d3 d4) g d0 d1 d2 d3 d4 ∧ Below a.heap.size a (set5 W g d0 d1 d2 d3 d4) :=
  ⟨hz.1.set _ _ _ _ _, bel_set5 h hz.2 _ _ _ _ _⟩
theorem rg_new {a W : World} (h : Below a.heap.size a W) (d0 d1 d2 d3 d4 : Value) : BoxIs (W.alloc (.cells #[d0, d1, d2, d3, d4] 25)) W.heap.size d0 d1 d2 d3 d4 ∧ Below a.heap.size a (W.alloc (.cells #[d0, d1, d2, d3, d4] 25)) := ⟨heap_alloc_new _ _, bel_trans h (bel_alloc _ _)⟩
theorem rg_size (w : World) (o : Obj) : (w.alloc o).drew.heap.size = w.heap.size + 1 := by show (World.alloc w o).heap.size = _; simp
/- On the way. -/
def GathI (w : World) (gl : Nat) (r : Option Nat) (L : List (List UInt8)) (D : Nat) (t : V) (at_ : List UInt8) (a1 a2 : Option Addr) (c1 c2 k : Nat) (wr : World) : Prop :=
  ∃ r', GatI wr gl (L ++ pathsU at_ (lvsU D t k)) r' ∧ Kept2 w wr gl r ∧ Fresh w r r' ∧ BoxIs wr w.heap.size (.int .i64 t.kind) (.int .i64 t.n) (.string ⟨t.s.toArray⟩) (.slice a1 t.keys.length c1) (.slice a2 t.l.length c2) ∧ some w.heap.size ≠ r'
theorem gath_next {w wr wc w' : World} {gl : Nat} {r : Option Nat} {L : List (List UInt8)} {D : Nat} {t : V} {at_ : List UInt8} {a1 a2 : Option Addr} {c1 c2 k : Nat} (hgl : gl < w.heap.size) {r' : Option Nat} (h2 : Kept2 w wr gl r) (h3 : Fresh w r r') (h4 : BoxIs wr w.heap.size (.int .i64 t.kind) (.int .i64 t.n) (.string ⟨t.s.toArray⟩) (.slice a1 t.keys.length c1) (.slice a2 t.l.length c2)) (h5 : some w.heap.size ≠ r')
    (hb : Below wr.heap.size wr wc) (hp : GatP wc w' gl r' (L ++ pathsU at_ (lvsU D t (k + 1)))) : GathI w gl r L D t at_ a1 a2 c1 c2 (k + 1) w' := by
  obtain ⟨r2, g1, g2, g3⟩ := hp
  have hsz := h4.lt
  have hsz2 := hb.size
  refine ⟨r2, g1, (h2.trans h3 (kept2_bel hb)).trans (h3) g2, (h3.trans (by have := h2.size; omega) g3), ?_, ?_⟩
  · have e1 : wc.heap[w.heap.size]? = wr.heap[w.heap.size]? := hb.block _ hsz
    have e2 := g2.block w.heap.size (by omega) (by omega) h5
    exact e2.trans (e1.trans h4)
  · rcases g3 with rfl | ⟨g, rfl, hg⟩
    · exact h5
    · simp; omega

attribute [local go_sem ↓] Go.wp_at_zero Go.wp_at_succ
set_option maxRecDepth 100000 in
set_option maxHeartbeats 8000000 in
theorem gather_at : ∀ (D : Nat) (w : World) (ok : Nat → Prop) (t : V) (v : Value) (at_ : List UInt8) (gl : Nat) (L : List (List UInt8)) (r : Option Nat), In w ok t v → (∀ k, ok k → k < gl) → GoodT D t → t.kind = 5 → at_.length + 130 * D ≤ 100000 → L.length + cnt t ≤ 100000 → GatI w gl L r → (∀ W, Below gl w W → GlobM W) →
    Calls Tryz.prog 32 #[v, .string ⟨at_.toArray⟩, .pointer (some ⟨gl, 0, none⟩)] w fun e w' => e = .returned (.tuple #[]) ∧ GatP w w' gl r (L ++ pathsU at_ (lvs D t)) := by
  intro D
  induction D with
  | zero => intro w ok t v at_ gl L r _ _ h; exact h.elim
  | succ D ih =>
  intro w ok t v at_ gl L r h hok hg hk hat hcn hG hM
  have H := hidI h
  have OK := hidI hok
  have GD := hidI hg
  have HG := hidI hG
  have HM := hidI hM
  have IH := hidI ih
  have AT := hidI hat
  have CNT : Hid (L.length + cnt t ≤ 100000) := hidI hcn
  have hpair : t.keys.length = t.l.length := by
    have := (shaped_object hg.1 hk).1
    simp only [pairedV, Bool.and_eq_true, decide_eq_true_eq] at this
    exact this.2
  have PR := hidI hpair
  have KEYS := hidI (keys_plain hg.1 hk)
  have GLT := hidI hG.lt
  obtain ⟨l1, l2, l3⟩ := h.lens
  obtain ⟨a1, a2, c1, c2, rfl⟩ := h.form
  have hrow : Hid (∀ g, r = some g → gl < g ∧ g < w.heap.size) := hidI (fun g hg => hG.row hg)
  clear h hok hg hk hat hcn hG hM ih hpair
  have B0 : Hid (Below w.heap.size w (w.alloc (.cells #[.int .i64 t.kind, .int .i64 t.n, .string ⟨t.s.toArray⟩, .slice a1 t.keys.length c1, .slice a2 t.l.length c2] 25))) := hidI (bel_alloc _ _)
  have S0 : Hid (GathI w gl r L D t at_ a1 a2 c1 c2 0 (w.alloc (.cells #[.int .i64 t.kind, .int .i64 t.n, .string ⟨t.s.toArray⟩, .slice a1 t.keys.length c1, .slice a2 t.l.length c2] 25))) := hidI ⟨r, by rw [lvsU_zero]; simpa [pathsU] using HG.out.bel B0.out, kept2_bel B0.out, .inl rfl, heap_alloc_new _ _, fun e => by have := (hrow.out _ e.symm).2; omega⟩
  go_enter Tryz.func32, Tryz.ntmps32
  go_wp2_with fail
  go_loopg [13] t.keys.length (fun gk i wr => ∃ k : Nat, k ≤ t.keys.length ∧ gk = t.keys.length - k ∧ i = .int .i64 k ∧ Hid (GathI w gl r L D t at_ a1 a2 c1 c2 k wr))
  case atStart => exact ⟨0, Nat.zero_le _, rfl, rfl, S0⟩
  case round =>
    obtain ⟨k, hk, hgk, rfl, I⟩ := hrel
    have GK := hidI hgk
    clear hgk
    by_cases hlt : k < t.keys.length
    · have hll : k < t.l.length := by rw [← PR.out]; exact hlt
      obtain ⟨r', i1, i2, i3, i4, i5⟩ := I.out
      have LB : Hid (Below gl w wr) := hidI (i2.low GLT.out (fun g hg => (hrow.out g hg).1))
      have HI : Hid (In wr ok t (.agg #[.int .i64 t.kind, .int .i64 t.n, .string ⟨t.s.toArray⟩, .slice a1 t.keys.length c1, .slice a2 t.l.length c2])) := hidI (H.out.belB OK.out LB.out)
      have I1 := hidI i1
      have I2 := hidI i2
      have I3 := hidI i3
      have I4 := hidI i4
      have I5 := hidI i5
      obtain ⟨kb, ko, rfl, kc1, kc2, kcell, klen⟩ := HI.out.key hlt
      obtain ⟨lb, lo, a5, c5, a6, c6, rfl, lc1, lc2, y0, y1, y2, y3, y4, hit⟩ := HI.out.item hll
      have HIT := hidI hit
      obtain ⟨p0, p1, p2, p3, p4, -⟩ := i4.c
      have P3 := hidI p3
      have P4 := hidI p4
      have Q0 := hidI y0
      have Q1 := hidI y1
      have Q2 := hidI y2
      have Q3 := hidI y3
      have Q4 := hidI y4
      have KL : Hid (t.keys[k].length ≤ maxLen) := hidI (by unfold maxLen; exact klen)
      have k60 := KEYS.out t.keys[k] (List.getElem_mem _)
      have KN : Hid (∀ x ∈ [t.keys[k]], x.length ≤ 10000000) := hidI (fun x hx => by rw [List.mem_singleton] at hx; rw [hx]; omega)
      have kjl : (joinP [t.keys[k]]).length ≤ 121 := by
        rw [join_cons]
        have := (marked_len t.keys[k]).2
        simp only [List.length_cons, List.length_append, joinP, List.flatMap_nil, List.length_nil]
        omega
      have KJ : Hid ((joinP [t.keys[k]]).length ≤ 10000000) := hidI (by omega)
      have KJL := hidI kjl
      have GM : Hid (∀ W, Below wr.heap.size wr W → GlobM W) := hidI (fun W hW => HM.out W (LB.out.trans (hW.mono (Nat.le_trans (Nat.le_of_lt GLT.out) I2.out.size))))
      have w2 : (k : Int) < (t.keys.length : Int) := by omega
      have w3 : (k : Int) < (t.l.length : Int) := by omega
      have w4 : (0 : Int) ≤ (k : Int) := by omega
      have sl : ¬ 9223372036854775807 < at_.length + (joinP [t.keys[k]]).length := by have := AT.out; omega
      have CAT0 : ByteArray.mk at_.toArray ++ ByteArray.mk (joinP [t.keys[k]]).toArray = ByteArray.mk (at_ ++ joinP [t.keys[k]]).toArray := ba_app _ _
      have CAT : Hid ((at_ ++ joinP [t.keys[k]]) = (at_ ++ joinP [t.keys[k]])) := hidI rfl
      have US := hidI (lvsU_step (D := D) hlt hll)
      have UC := hidI (lvsU_cnt D t k)
      have CT := hidI (cnts_takeK hll)
      have CE := hidI (cnt_eq t)
      clear i1 i2 i3 i4 i5 hit p0 p1 p2 p3 p4 y0 y1 y2 y3 y4 klen k60 kjl I
      have q3 := P3.out
      have q4 := P4.out
      go_upto_region 4 with fail
      clear q3 q4
      go_cut [8, 9] (fun sv pv wc => ∃ g9 : Nat, pv = .pointer (some ⟨g9, 0, none⟩) ∧ sv = .string ⟨(at_ ++ joinP [t.keys[k]]).toArray⟩ ∧ BoxIs wc g9 (.int .i64 t.l[k].kind) (.int .i64 t.l[k].n) (.string ⟨t.l[k].s.toArray⟩) (.slice a5 t.l[k].keys.length c5) (.slice a6 t.l[k].l.length c6) ∧ Below wr.heap.size wr wc)
      case first =>
          refine wp_region_T (fun wS => Below wr.heap.size wr wS) [12] (by kernel_rfl) (bel_drewN _ 1) (fun hHeld => ?_)
          refine wpAnyT_take (i := 0) (v := ?_) [4, 11, 12] (oi := _) rfl (by kernel_rfl) (by kernel_rfl) (by kernel_rfl) (by kernel_rfl) (fun _ _ _ h => h) (Or.inl ⟨by rfl, ?_⟩) hHeld ?_
          rotate_left
          · intro wS hSw
            go_simp
            all_goals with_reducible rfl
          simp only [Act.put, List.setIfInBounds_toArray, List.set_cons_zero, List.set_cons_succ]
          refine wpAnyT_take (i := 1) (v := ?_) [2, 3, 4, 11, 12] (oi := _) rfl (by kernel_rfl) (by kernel_rfl) (by kernel_rfl) (by kernel_rfl) (fun _ _ _ h => h) (Or.inl ⟨by rfl, ?_⟩) hHeld ?_
          rotate_left
          · intro wS hSw
            go_simp
            all_goals with_reducible rfl
          simp only [Act.put, List.setIfInBounds_toArray, List.set_cons_zero, List.set_cons_succ]
          refine wpAnyT_take (i := 5) (v := ?_) [6, 8, 9, 12] (oi := _) rfl (by kernel_rfl) (by kernel_rfl) (by kernel_rfl) (by kernel_rfl) (fun _ _ _ h => h) (Or.inl ⟨by rfl, ?_⟩) hHeld ?_
          rotate_left
          · intro wS hSw
            go_simp
            all_goals with_reducible rfl
          simp only [Act.put, List.setIfInBounds_toArray, List.set_cons_zero, List.set_cons_succ]
          refine wpAnyT_take (i := 6) (v := ?_) [8, 9, 12] (oi := _) rfl (by kernel_rfl) (by kernel_rfl) (by kernel_rfl) (by kernel_rfl) (fun _ _ _ h => h) (Or.inl ⟨by rfl, ?_⟩) hHeld ?_
          rotate_left
          · intro wS hSw
            have u3 := cell_bel hSw P3.out
            have u4 := cell_bel hSw P4.out
            have q0 := cell_bel hSw Q0.out
            have q1 := cell_bel hSw Q1.out
            have q2 := cell_bel hSw Q2.out
            have q3 := cell_bel hSw Q3.out
            have q4 := cell_bel hSw Q4.out
            go_simp
            all_goals with_reducible rfl
          simp only [Act.put, List.setIfInBounds_toArray, List.set_cons_zero, List.set_cons_succ]
          refine wpAnyT_take (i := 7) (v := ?_) [8, 9, 12] (oi := _) rfl (by kernel_rfl) (by kernel_rfl) (by kernel_rfl) (by kernel_rfl) (fun _ _ _ h => h) (Or.inl ⟨by rfl, ?_⟩) hHeld ?_
          rotate_left
          · intro wS hSw
            go_simp
            all_goals with_reducible rfl
          simp only [Act.put, List.setIfInBounds_toArray, List.set_cons_zero, List.set_cons_succ]
          refine wpAnyT_take (i := 8) (v := ?_) [9, 12] (oi := _) rfl (by kernel_rfl) (by kernel_rfl) (by kernel_rfl) (by kernel_rfl) (fun _ _ _ h => h) (Or.inl ⟨by rfl, ?_⟩) hHeld ?_
          rotate_left
          · intro wS hSw
            go_simp
            all_goals with_reducible rfl
          simp only [Act.put, List.setIfInBounds_toArray, List.set_cons_zero, List.set_cons_succ]
          refine wpAnyT_take (i := 9) (v := ?_) [12] (oi := _) rfl (by kernel_rfl) (by kernel_rfl) (by kernel_rfl) (by kernel_rfl) (fun _ _ _ h => h) (Or.inl ⟨by rfl, ?_⟩) hHeld ?_
          rotate_left
          · intro wS hSw
            have u3 := cell_bel hSw P3.out
            have u4 := cell_bel hSw P4.out
            have q0 := cell_bel hSw Q0.out
            have q1 := cell_bel hSw Q1.out
            have q2 := cell_bel hSw Q2.out
            have q3 := cell_bel hSw Q3.out
            have q4 := cell_bel hSw Q4.out
            go_simp
            all_goals with_reducible rfl
          simp only [Act.put, List.setIfInBounds_toArray, List.set_cons_zero, List.set_cons_succ]
          refine wpAnyT_ready (rs := [2, 10]) (by kernel_rfl) (by simp) ?_
          refine AllReadyT.cons (i := 2) (o := _) rfl (fun K hK => ?_) ?_
          · go_simp
            refine hK.out _ _ (bel_trans hHeld (bel_alloc _ _)) (fun hHeld2 => ?_)
            have SK := hidI (rg_str hHeld KL.out)
            try rw [show (World.drew (World.alloc wr (.cells #[.int .i64 0, .int .i64 0, .string ⟨#[]⟩, .slice none 0 0, .slice none 0 0] 25))).heap.size = wr.heap.size + 1 from rg_size _ _] at SK
            try replace NB := hidI (box_belA (bel_alloc _ (.cells #[.string ⟨t.keys[k].toArray⟩] 9)) NB.out)
            clear hK K
            replace hHeld := hHeld2
            clear hHeld2
            try simp only [Act.put, List.setIfInBounds_toArray, List.set_cons_zero, List.set_cons_succ]
            refine wpAnyT_ready (rs := [3, 10]) (by kernel_rfl) (by simp) ?_
            refine AllReadyT.cons (i := 3) (o := _) rfl (fun K hK => ?_) ?_
            · go_simp
              refine (join_at _ (fun _ => True) [t.keys[k]] _ (by exact SK.out) KN.out KJ.out (GM.out _ hHeld)).mono ?_
              rintro e w3q ⟨rfl, hb5⟩
              unfold str
              refine hK.out _ _ (bel_trans hHeld hb5) (fun hHeld2 => ?_)
              try replace NB := hidI (box_belA hb5 NB.out)
              clear hb5 SK
              have CALLED : Hid True := hidI trivial
              clear hK K
              replace hHeld := hHeld2
              clear hHeld2
              try simp only [Act.put, List.setIfInBounds_toArray, List.set_cons_zero, List.set_cons_succ]
              refine wpAnyT_take (i := 4) (v := ?_) [11, 12] (oi := _) rfl (by kernel_rfl) (by kernel_rfl) (by kernel_rfl) (by kernel_rfl) (fun _ _ _ h => h) (Or.inl ⟨by rfl, ?_⟩) hHeld ?_
              rotate_left
              · intro wS hSw
                go_simp
                all_goals with_reducible rfl
              simp only [Act.put, List.setIfInBounds_toArray, List.set_cons_zero, List.set_cons_succ]
              refine wpAnyT_ready (rs := [10]) (by kernel_rfl) (by simp) ?_
              refine AllReadyT.cons (i := 10) (o := _) rfl (fun K hK => ?_) ?_
              · go_simp
                refine hK.out _ _ (bel_trans hHeld (bel_alloc _ _)) (fun hHeld2 => ?_)
                have NB := hidI (rg_box hHeld)
                first | (have c9 := CALLED.out; clear c9; have FINA := hidI (rg_new hHeld (.int .i64 t.l[k].kind) (.int .i64 t.l[k].n) (.string ⟨t.l[k].s.toArray⟩) (.slice a5 t.l[k].keys.length c5) (.slice a6 t.l[k].l.length c6))) | skip
                try replace SK := hidI (StrsAre.bel SK.out (bel_alloc _ (.cells #[.int .i64 0, .int .i64 0, .string ⟨#[]⟩, .slice none 0 0, .slice none 0 0] 25)))
                clear hK K
                replace hHeld := hHeld2
                clear hHeld2
                try simp only [Act.put, List.setIfInBounds_toArray, List.set_cons_zero, List.set_cons_succ]
                refine wpAnyT_take (i := 11) (v := ?_) [12] (oi := _) rfl (by kernel_rfl) (by kernel_rfl) (by kernel_rfl) (by kernel_rfl) (fun _ _ _ h => h) (Or.inl ⟨by rfl, ?_⟩) hHeld ?_
                rotate_left
                · intro wS hSw
                  go_simp
                  all_goals with_reducible rfl
                simp only [Act.put, List.setIfInBounds_toArray, List.set_cons_zero, List.set_cons_succ]
                try rw [show (World.drew wr).heap.size = wr.heap.size from rfl] at NB
                try rw [show (World.drew (World.alloc wr (.cells #[.string ⟨t.keys[k].toArray⟩] 9))).heap.size = wr.heap.size + 1 from rg_size _ _] at NB
                obtain ⟨n0, n1, n2, n3, n4, m0, m1, m2, m3, m4⟩ := NB.out.1.c
                have FIN := hidI (rg_fin hHeld NB.out (.int .i64 t.l[k].kind) (.int .i64 t.l[k].n) (.string ⟨t.l[k].s.toArray⟩) (.slice a5 t.l[k].keys.length c5) (.slice a6 t.l[k].l.length c6))
                refine wpAnyT_last (i := 12) (o := _) (by kernel_rfl) (by rfl) rfl (fun K hK => ?_)
                go_simp
                refine hK.out _ _ ?_
                clear hK K
                try simp only [Act.put, List.setIfInBounds_toArray, List.set_cons_zero, List.set_cons_succ]
                refine wpAnyT_done (by kernel_rfl) ?_ _
                go_wp2_with fail
                go_meet
                case rel => first | exact ⟨_, rfl, rfl, FINA.out⟩ | exact ⟨_, rfl, rfl, FIN.out⟩
              exact AllReadyT.nil
            refine AllReadyT.cons (i := 10) (o := _) rfl (fun K hK => ?_) ?_
            · go_simp
              refine hK.out _ _ (bel_trans hHeld (bel_alloc _ _)) (fun hHeld2 => ?_)
              have NB := hidI (rg_box hHeld)
              first | (have c9 := CALLED.out; clear c9; have FINA := hidI (rg_new hHeld (.int .i64 t.l[k].kind) (.int .i64 t.l[k].n) (.string ⟨t.l[k].s.toArray⟩) (.slice a5 t.l[k].keys.length c5) (.slice a6 t.l[k].l.length c6))) | skip
              try replace SK := hidI (StrsAre.bel SK.out (bel_alloc _ (.cells #[.int .i64 0, .int .i64 0, .string ⟨#[]⟩, .slice none 0 0, .slice none 0 0] 25)))
              clear hK K
              replace hHeld := hHeld2
              clear hHeld2
              try simp only [Act.put, List.setIfInBounds_toArray, List.set_cons_zero, List.set_cons_succ]
              refine wpAnyT_ready (rs := [3]) (by kernel_rfl) (by simp) ?_
              refine AllReadyT.cons (i := 3) (o := _) rfl (fun K hK => ?_) ?_
              · go_simp
                refine (join_at _ (fun _ => True) [t.keys[k]] _ (by exact SK.out) KN.out KJ.out (GM.out _ hHeld)).mono ?_
                rintro e w3q ⟨rfl, hb5⟩
                unfold str
                refine hK.out _ _ (bel_trans hHeld hb5) (fun hHeld2 => ?_)
                try replace NB := hidI (box_belA hb5 NB.out)
                clear hb5 SK
                have CALLED : Hid True := hidI trivial
                clear hK K
                replace hHeld := hHeld2
                clear hHeld2
                try simp only [Act.put, List.setIfInBounds_toArray, List.set_cons_zero, List.set_cons_succ]
                refine wpAnyT_take (i := 4) (v := ?_) [11, 12] (oi := _) rfl (by kernel_rfl) (by kernel_rfl) (by kernel_rfl) (by kernel_rfl) (fun _ _ _ h => h) (Or.inl ⟨by rfl, ?_⟩) hHeld ?_
                rotate_left
                · intro wS hSw
                  go_simp
                  all_goals with_reducible rfl
                simp only [Act.put, List.setIfInBounds_toArray, List.set_cons_zero, List.set_cons_succ]
                refine wpAnyT_take (i := 11) (v := ?_) [12] (oi := _) rfl (by kernel_rfl) (by kernel_rfl) (by kernel_rfl) (by kernel_rfl) (fun _ _ _ h => h) (Or.inl ⟨by rfl, ?_⟩) hHeld ?_
                rotate_left
                · intro wS hSw
                  go_simp
                  all_goals with_reducible rfl
                simp only [Act.put, List.setIfInBounds_toArray, List.set_cons_zero, List.set_cons_succ]
                try rw [show (World.drew wr).heap.size = wr.heap.size from rfl] at NB
                try rw [show (World.drew (World.alloc wr (.cells #[.string ⟨t.keys[k].toArray⟩] 9))).heap.size = wr.heap.size + 1 from rg_size _ _] at NB
                obtain ⟨n0, n1, n2, n3, n4, m0, m1, m2, m3, m4⟩ := NB.out.1.c
                have FIN := hidI (rg_fin hHeld NB.out (.int .i64 t.l[k].kind) (.int .i64 t.l[k].n) (.string ⟨t.l[k].s.toArray⟩) (.slice a5 t.l[k].keys.length c5) (.slice a6 t.l[k].l.length c6))
                refine wpAnyT_last (i := 12) (o := _) (by kernel_rfl) (by rfl) rfl (fun K hK => ?_)
                go_simp
                refine hK.out _ _ ?_
                clear hK K
                try simp only [Act.put, List.setIfInBounds_toArray, List.set_cons_zero, List.set_cons_succ]
                refine wpAnyT_done (by kernel_rfl) ?_ _
                go_wp2_with fail
                go_meet
                case rel => first | exact ⟨_, rfl, rfl, FINA.out⟩ | exact ⟨_, rfl, rfl, FIN.out⟩
              exact AllReadyT.nil
            exact AllReadyT.nil
          refine AllReadyT.cons (i := 10) (o := _) rfl (fun K hK => ?_) ?_
          · go_simp
            refine hK.out _ _ (bel_trans hHeld (bel_alloc _ _)) (fun hHeld2 => ?_)
            have NB := hidI (rg_box hHeld)
            first | (have c9 := CALLED.out; clear c9; have FINA := hidI (rg_new hHeld (.int .i64 t.l[k].kind) (.int .i64 t.l[k].n) (.string ⟨t.l[k].s.toArray⟩) (.slice a5 t.l[k].keys.length c5) (.slice a6 t.l[k].l.length c6))) | skip
            try replace SK := hidI (StrsAre.bel SK.out (bel_alloc _ (.cells #[.int .i64 0, .int .i64 0, .string ⟨#[]⟩, .slice none 0 0, .slice none 0 0] 25)))
            clear hK K
            replace hHeld := hHeld2
            clear hHeld2
            try simp only [Act.put, List.setIfInBounds_toArray, List.set_cons_zero, List.set_cons_succ]
            refine wpAnyT_ready (rs := [2]) (by kernel_rfl) (by simp) ?_
            refine AllReadyT.cons (i := 2) (o := _) rfl (fun K hK => ?_) ?_
            · go_simp
              refine hK.out _ _ (bel_trans hHeld (bel_alloc _ _)) (fun hHeld2 => ?_)
              have SK := hidI (rg_str hHeld KL.out)
              try rw [show (World.drew (World.alloc wr (.cells #[.int .i64 0, .int .i64 0, .string ⟨#[]⟩, .slice none 0 0, .slice none 0 0] 25))).heap.size = wr.heap.size + 1 from rg_size _ _] at SK
              try replace NB := hidI (box_belA (bel_alloc _ (.cells #[.string ⟨t.keys[k].toArray⟩] 9)) NB.out)
              clear hK K
              replace hHeld := hHeld2
              clear hHeld2
              try simp only [Act.put, List.setIfInBounds_toArray, List.set_cons_zero, List.set_cons_succ]
              refine wpAnyT_ready (rs := [3]) (by kernel_rfl) (by simp) ?_
              refine AllReadyT.cons (i := 3) (o := _) rfl (fun K hK => ?_) ?_
              · go_simp
                refine (join_at _ (fun _ => True) [t.keys[k]] _ (by exact SK.out) KN.out KJ.out (GM.out _ hHeld)).mono ?_
                rintro e w3q ⟨rfl, hb5⟩
                unfold str
                refine hK.out _ _ (bel_trans hHeld hb5) (fun hHeld2 => ?_)
                try replace NB := hidI (box_belA hb5 NB.out)
                clear hb5 SK
                have CALLED : Hid True := hidI trivial
                clear hK K
                replace hHeld := hHeld2
                clear hHeld2
                try simp only [Act.put, List.setIfInBounds_toArray, List.set_cons_zero, List.set_cons_succ]
                refine wpAnyT_take (i := 4) (v := ?_) [11, 12] (oi := _) rfl (by kernel_rfl) (by kernel_rfl) (by kernel_rfl) (by kernel_rfl) (fun _ _ _ h => h) (Or.inl ⟨by rfl, ?_⟩) hHeld ?_
                rotate_left
                · intro wS hSw
                  go_simp
                  all_goals with_reducible rfl
                simp only [Act.put, List.setIfInBounds_toArray, List.set_cons_zero, List.set_cons_succ]
                refine wpAnyT_take (i := 11) (v := ?_) [12] (oi := _) rfl (by kernel_rfl) (by kernel_rfl) (by kernel_rfl) (by kernel_rfl) (fun _ _ _ h => h) (Or.inl ⟨by rfl, ?_⟩) hHeld ?_
                rotate_left
                · intro wS hSw
                  go_simp
                  all_goals with_reducible rfl
                simp only [Act.put, List.setIfInBounds_toArray, List.set_cons_zero, List.set_cons_succ]
                try rw [show (World.drew wr).heap.size = wr.heap.size from rfl] at NB
                try rw [show (World.drew (World.alloc wr (.cells #[.string ⟨t.keys[k].toArray⟩] 9))).heap.size = wr.heap.size + 1 from rg_size _ _] at NB
                obtain ⟨n0, n1, n2, n3, n4, m0, m1, m2, m3, m4⟩ := NB.out.1.c
                have FIN := hidI (rg_fin hHeld NB.out (.int .i64 t.l[k].kind) (.int .i64 t.l[k].n) (.string ⟨t.l[k].s.toArray⟩) (.slice a5 t.l[k].keys.length c5) (.slice a6 t.l[k].l.length c6))
                refine wpAnyT_last (i := 12) (o := _) (by kernel_rfl) (by rfl) rfl (fun K hK => ?_)
                go_simp
                refine hK.out _ _ ?_
                clear hK K
                try simp only [Act.put, List.setIfInBounds_toArray, List.set_cons_zero, List.set_cons_succ]
                refine wpAnyT_done (by kernel_rfl) ?_ _
                go_wp2_with fail
                go_meet
                case rel => first | exact ⟨_, rfl, rfl, FINA.out⟩ | exact ⟨_, rfl, rfl, FIN.out⟩
              exact AllReadyT.nil
            exact AllReadyT.nil
          exact AllReadyT.nil
      case rest =>
        obtain ⟨g9, rfl, rfl, hbx, hbl⟩ := hcut
        have BX := hidI hbx
        have BC := hidI hbl
        have HITC := hidI (HIT.out.bel hbl)
        have GC := hidI (I1.out.bel hbl)
        obtain ⟨x0, x1, x2, x3, x4, -⟩ := hbx.c
        have PL : Hid ((at_ ++ joinP [t.keys[k]]).length + 130 * D ≤ 100000) := hidI (by have := KJL.out; have := AT.out; rw [List.length_append]; omega)
        have NX : Hid (∀ w', GatP wc w' gl r' (L ++ pathsU at_ (lvsU D t (k + 1))) → GathI w gl r L D t at_ (some ⟨kb, ko, none⟩) (some ⟨lb, lo, none⟩) c1 c2 (k + 1) w') := hidI (fun w' hp => gath_next GLT.out I2.out I3.out I4.out I5.out BC.out hp)
        have LBC : Hid (Below gl w wc) := hidI (LB.out.trans (BC.out.mono (Nat.le_trans (Nat.le_of_lt GLT.out) I2.out.size)))
        clear hbx hbl
        obtain ⟨p, hp⟩ : ∃ p, at_ ++ joinP [t.keys[k]] = p := ⟨_, rfl⟩
        rw [hp] at PL ⊢
        have HPP := hidI hp
        clear hp
        by_cases hkd : t.l[k].kind = 5 ∧ t.l[k].l ≠ []
        · have e1 : (t.l[k].kind == 5) = true := by simp [hkd.1]
          have e2 : (0 : Int) < ((t.l[k].l.length : Nat) : Int) := by have := List.length_pos_iff.2 hkd.2; omega
          have e3 : decide (0 < t.l[k].l.length) = true := decide_eq_true (List.length_pos_iff.2 hkd.2)
          have CALL := hidI (IH.out wc ok t.l[k] _ p gl (L ++ pathsU at_ (lvsU D t k)) r' HITC.out OK.out (GD.out.2 _ (List.getElem_mem _)) hkd.1 PL.out (by
            have h1 := UC.out
            have h2 := CT.out
            have h3 := CE.out
            have h4 := CNT.out
            rw [List.length_append, pathsU, List.length_map]
            omega) GC.out (fun W hW => HM.out W (LBC.out.trans hW)))
          have UE : Hid (L ++ pathsU at_ (lvsU D t k) ++ pathsU p (lvs D t.l[k]) = L ++ pathsU at_ (lvsU D t (k + 1))) := hidI (by
            rw [US.out, if_pos hkd, ← HPP.out, ← pathsU_deep, List.append_assoc]
            simp [pathsU])
          clear hkd
          go_wp2_with (go_at_call 32; refine CALL.out.mono ?_; rintro e w5 ⟨rfl, hgp⟩; rw [UE.out] at hgp; have GP := hidI (NX.out _ hgp); clear hgp)
          go_roundg (t.keys.length - (k + 1))
          case measure => rw [GK.out]; omega
          case rel => exact ⟨k + 1, hlt, rfl, by go_num, GP⟩
        · obtain ⟨sv, s1, s2, s3⟩ := GC.out
          have UE : Hid (L ++ pathsU at_ (lvsU D t k) ++ [p] = L ++ pathsU at_ (lvsU D t (k + 1))) := hidI (by
            rw [US.out, if_neg hkd, ← HPP.out, List.append_assoc]
            simp [pathsU])
          obtain ⟨LL, hLL⟩ : ∃ LL, L ++ pathsU at_ (lvsU D t k) = LL := ⟨_, rfl⟩
          have hn : LL.length ≤ 1000000 := by
            have h1 := UC.out
            have h2 := CT.out
            have h3 := CE.out
            have h4 := CNT.out
            rw [← hLL, List.length_append, pathsU, List.length_map]
            omega
          rw [hLL] at s2 UE
          have hglc : gl < wc.heap.size := (Array.getElem?_eq_some_iff.1 s1).1
          obtain ⟨g7, c7, W7, hR, ho7, hg7, hf7⟩ := run_pushS (W := wc.alloc (.cells #[.string ⟨p.toArray⟩] 9)) (B := gl + 1) (v := sv) (n := LL.length) (cs := LL.map fun s => Value.string ⟨s.toArray⟩) (nb := wc.heap.size) (k := ⟨p.toArray⟩) (own_same s2 fun g hg => (bel_alloc _ _).block g (own_lt s2 hg).2) (heap_alloc_new _ _) hn (by have := (bel_alloc wc (.cells #[.string ⟨p.toArray⟩] 9)).size; omega) 22
          have GP := hidI (NX.out _ (by have h9 := gat_push s1 s3 (fun g hg => (GC.out.row hg).1) ho7 hg7 hf7 hglc; rw [UE.out] at h9; exact h9))
          have HR := hidI hR
          have c0 : wc.cell? ⟨gl, 0, none⟩ = some sv := by simp [World.cell?, s1]
          have c0a : ∀ o, (wc.alloc o).cell? ⟨gl, 0, none⟩ = some sv := fun o => cell_bel (bel_alloc _ _) c0
          have hb7 : W7.heap[gl]? = some (.cells #[sv] 22) := by
            rw [hg7.block gl (Nat.lt_of_lt_of_le hglc (bel_alloc wc _).size) (fun e => by have := (own_lt s2 e.symm).1; omega), (bel_alloc wc _).block gl hglc, s1]
          have c7a : W7.cell? ⟨gl, 0, none⟩ = some sv := by simp [World.cell?, hb7]
          have c7f : W7.frozen? ⟨gl, 0, none⟩ = false := by simp [World.frozen?, hb7]
          obtain ⟨sa, sn, sc, hsv⟩ : ∃ sa sn sc, sv = .slice sa sn sc := by
            rcases s2.2 with ⟨h9, -⟩ | ⟨_, _, _, h9, -⟩
            · exact ⟨_, _, _, h9⟩
            · exact ⟨_, _, _, h9⟩
          subst hsv
          by_cases hk5 : t.l[k].kind = 5
          · have e1 : (t.l[k].kind == 5) = true := by simp [hk5]
            have hl0 : t.l[k].l = [] := by
              apply Classical.byContradiction
              intro h9
              exact hkd ⟨hk5, h9⟩
            have e2 : ¬ (0 : Int) < ((t.l[k].l.length : Nat) : Int) := by rw [hl0]; simp
            have e3 : decide (0 < t.l[k].l.length) = false := by rw [hl0]; simp
            clear hl0 hk5 hkd hR ho7 hg7 hf7 s1 s2 s3 hb7 hLL
            go_wp2_with (at_builtin; go_must (refine Lib.wpList_append_run _ rfl _ _ _ _ rfl (.slice sa sn sc) (.slice (some ⟨wc.heap.size, 0, none⟩) 1 1) rfl rfl _ _ HR.out ?_); refine Hid.out ?_)
            refine hidI ?_
            go_wp2_with fail
            go_roundg (t.keys.length - (k + 1))
            case measure => rw [GK.out]; omega
            case rel => exact ⟨k + 1, hlt, rfl, by go_num, GP⟩
          · have e1 : (t.l[k].kind == 5) = false := by rw [beq_eq_false_iff_ne]; exact hk5
            clear hk5 hkd hR ho7 hg7 hf7 s1 s2 s3 hb7 hLL
            go_wp2_with (at_builtin; go_must (refine Lib.wpList_append_run _ rfl _ _ _ _ rfl (.slice sa sn sc) (.slice (some ⟨wc.heap.size, 0, none⟩) 1 1) rfl rfl _ _ HR.out ?_); refine Hid.out ?_)
            refine hidI ?_
            go_wp2_with fail
            go_roundg (t.keys.length - (k + 1))
            case measure => rw [GK.out]; omega
            case rel => exact ⟨k + 1, hlt, rfl, by go_num, GP⟩
    · have d1 : ¬ (k : Int) < (t.keys.length : Int) := by omega
      have hke : k = t.keys.length := by omega
      subst hke
      obtain ⟨r', i1, i2, i3, i4, i5⟩ := I.out
      have R : Hid (GatP w wr gl r (L ++ pathsU at_ (lvs (D + 1) t))) := hidI ⟨r', by rw [← lvsU_end PR.out]; exact i1, i2, i3⟩
      clear i1 i2 i3 i4 i5 I
      go_wp2_with fail
      go_end0
      exact ⟨rfl, R.out⟩
end Go.Proofs.YtmdemcjmcnfjmaaGreatDoor

/- What goodPath of package owner does. -/
set_option linter.unusedSimpArgs false
set_option linter.unusedVariables false
namespace Go.Proofs.YtmdemcjmcnfjmaaGreatDoor
open Go.RowKit

set_option maxRecDepth 100000 in
set_option maxHeartbeats 4000000 in
theorem goodPath_at (w : World) (p : List UInt8) (hp : p.length ≤ 140737488351232) (hM : GlobM w) :
    Calls Tryz.prog 69 #[str p] w fun e w' => e = .returned (.bool (gpB p)) ∧ Below w.heap.size w w' := by
  have HM := hidI hM
  clear hM
  have pe : ((ByteArray.mk p.toArray) == (ByteArray.mk p.toArray)) = true := ba_eq rfl
  unfold str
  go_enter Tryz.func69, Tryz.ntmps69
  go_wp2_with fail
  refine (split_all _ p hp (by exact HM.out)).mono ?_
  rintro e w1 ⟨ns, ee, na, nc, rfl, hsp, hns, hb1⟩
  have nlen := hns.1
  unfold maxLen at nlen
  have K := hidI hns
  have B := hidI hb1
  have R : Hid (gpB p = (decide (ee = 0) && !ns.isEmpty)) := hidI (by unfold gpB namesP; rw [hsp])
  clear hns hb1
  by_cases he : ee = 0
  · subst he
    obtain ⟨h1, h2⟩ := split_len hsp
    have JN : Hid (∀ x ∈ ns, x.length ≤ 10000000) := hidI (fun x hx => by have := join_mem_len hx; rw [h2] at this; omega)
    have JP := hidI h2
    have JL : Hid ((joinP ns).length ≤ 10000000) := hidI (by rw [h2]; omega)
    clear h1 h2 hsp
    cases ns with
    | nil =>
      have RR : Hid (gpB p = false) := hidI (by rw [R.out]; rfl)
      clear R
      go_wp2_with fail
      go_ret
      exact ⟨by rw [RR.out]; rfl, B.out⟩
    | cons x xs =>
      have RR : Hid (gpB p = true) := hidI (by rw [R.out]; rfl)
      have g1 : (0 : Int) < (((x :: xs).length : Nat) : Int) := by simp only [List.length_cons]; omega
      obtain ⟨L, hL⟩ : ∃ L, (x :: xs).length = L := ⟨_, rfl⟩
      rw [hL] at g1 nlen ⊢
      have K2 : Hid (StrsAre w1 (fun k => w.heap.size ≤ k) (x :: xs) (.slice na L nc)) := hidI (by rw [← hL]; exact K.out)
      clear hL K R
      go_wp2_with (go_at_call 17; refine (join_at _ _ (x :: xs) _ (by exact K2.out) (by exact JN.out) (by exact JL.out) (by exact HM.out.bel B.out)).mono ?_; rintro e w2 ⟨rfl, hb2⟩; rw [JP.out]; unfold str; have B2 := hidI (bel_trans B.out hb2); clear hb2)
      go_ret
      exact ⟨by rw [RR.out]; first | done | rfl | simp, B2.out⟩
  · have e1 : (ee == 0) = false := by rw [beq_eq_false_iff_ne]; exact he
    have RR : Hid (gpB p = false) := hidI (by rw [R.out]; simp [he])
    clear he hsp R
    go_wp2_with fail
    go_ret
    exact ⟨by rw [RR.out]; rfl, B.out⟩

end Go.Proofs.YtmdemcjmcnfjmaaGreatDoor

/- What goodPaths and goodObject of package owner do. -/
set_option linter.unusedSimpArgs false
set_option linter.unusedVariables false
namespace Go.Proofs.YtmdemcjmcnfjmaaGreatDoor
open Go.RowKit

set_option maxRecDepth 100000 in
set_option maxHeartbeats 4000000 in
theorem goodPaths_at (w : World) (ok : Nat → Prop) (xs : List (List UInt8)) (v : Value) (h : StrsAre w ok xs v) (hP : ∀ x ∈ xs, x.length ≤ 140737488351232) (hM : GlobM w) :
    Calls Tryz.prog 35 #[v] w fun e w' => e = .returned (.bool (gpsB xs)) ∧ Below w.heap.size w w' := by
  obtain ⟨a, c, rfl⟩ := h.form
  have H := hidI h
  have HP := hidI hP
  have HM := hidI hM
  have ll := h.1
  unfold maxLen at ll
  clear h hP hM
  go_enter Tryz.func35, Tryz.ntmps35
  go_wp2_with fail
  go_loopg [7] xs.length (fun gk i wr => ∃ k : Nat, k ≤ xs.length ∧ gk = xs.length - k ∧ i = .int .i64 k ∧ Hid ((xs.take k).all gpB = true ∧ risesB (xs.take k) = true) ∧ Hid (Below w.heap.size w wr))
  case atStart => exact ⟨0, Nat.zero_le _, rfl, rfl, ⟨rfl, rfl⟩, Below.refl _ _⟩
  case round =>
    obtain ⟨k, hk, hgk, rfl, AL, BL⟩ := hrel
    have GK := hidI hgk
    clear hgk
    by_cases hlt : k < xs.length
    · obtain ⟨b, off, rfl, hc1, hc2, hcell0⟩ := strs_at H.out hlt
      unfold maxLen at hc2
      have hcell := cell_bel BL.out hcell0
      have w2 : (k : Int) < (xs.length : Int) := by omega
      have CALL : Hid (∀ W : World, Below w.heap.size w W → Calls Tryz.prog 69 #[.string ⟨xs[k].toArray⟩] W fun e w' => e = .returned (.bool (gpB xs[k])) ∧ Below W.heap.size W w') := hidI (fun W hW => goodPath_at W xs[k] (HP.out _ (List.getElem_mem _)) (HM.out.bel hW))
      have PV : Hid (∀ j, k = j + 1 → w.cell? ⟨b, off + j, none⟩ = some (.string ⟨xs[k - 1].toArray⟩)) := hidI (fun j hj => by
        subst hj
        obtain ⟨b', off', e, -, -, h9⟩ := strs_at H.out (k := j) (by omega)
        cases e; exact h9)
      clear hcell0
      cases hpl : gpB xs[k] with
      | false =>
        have R := hidI (gps_badP hlt hpl)
        have HPL := hidI hpl
        clear hpl
        go_wp2_with (go_at_call 69; refine (CALL.out _ BL.out).mono ?_; rintro e w' ⟨rfl, hb⟩; rw [HPL.out]; have BL2 := hidI (bel_trans BL.out hb); clear hb)
        go_ret
        exact ⟨by rw [R.out]; rfl, BL2.out⟩
      | true =>
        have HPL := hidI hpl
        have AN := hidI (all_take hlt AL.out.1 hpl)
        clear hpl
        cases k with
        | zero =>
          rw [Nat.add_zero] at hcell
          go_wp2_with (go_at_call 69; refine (CALL.out _ BL.out).mono ?_; rintro e w' ⟨rfl, hb⟩; rw [HPL.out]; have BL2 := hidI (bel_trans BL.out hb); clear hb)
          go_roundg (xs.length - 1)
          case measure => rw [GK.out]; omega
          case rel => exact ⟨1, by omega, rfl, by go_num, ⟨AN.out, rises_one xs⟩, BL2⟩
        | succ j =>
          have hpc := cell_bel BL.out (PV.out j rfl)
          have j0 : (0 : Int) < ((j + 1 : Nat) : Int) := by omega
          have RT := hidI (rises_take hlt)
          simp only [Nat.add_sub_cancel] at hpc
          have hpcA : Hid (∀ W, Below w.heap.size w W → W.cell? ⟨b, off + j, none⟩ = some (.string ⟨xs[j].toArray⟩)) := hidI (fun W hW => by
            have := cell_bel hW (PV.out j rfl); simpa only [Nat.add_sub_cancel] using this)
          clear hpc
          cases hbl : Op.bytesLess xs[j] xs[j + 1] with
          | true =>
            have HBL := hidI hbl
            go_wp2_with (go_at_call 69; refine (CALL.out _ BL.out).mono ?_; rintro e w' ⟨rfl, hb⟩; rw [HPL.out]; have BL2 := hidI (bel_trans BL.out hb); have hpc := hpcA.out _ BL2.out; clear hb)
            go_roundg (xs.length - (j + 1 + 1))
            case measure => rw [GK.out]; omega
            case rel => exact ⟨j + 1 + 1, by omega, rfl, by go_num, ⟨AN.out, by rw [RT.out, AL.out.2, HBL.out]; rfl⟩, BL2⟩
          | false =>
            have R := hidI (gps_badR hlt hbl)
            go_wp2_with (go_at_call 69; refine (CALL.out _ BL.out).mono ?_; rintro e w' ⟨rfl, hb⟩; rw [HPL.out]; have BL2 := hidI (bel_trans BL.out hb); have hpc := hpcA.out _ BL2.out; clear hb)
            go_ret
            exact ⟨by rw [R.out]; rfl, BL2.out⟩
    · have d1 : ¬ (k : Int) < (xs.length : Int) := by omega
      have hke : k = xs.length := by omega
      have AE : Hid (xs.all gpB = true ∧ risesB xs = true) := hidI (by have := AL.out; rwa [hke, List.take_length] at this)
      clear hke
      cases xs with
      | nil =>
        go_wp2_with fail
        go_ret
        exact ⟨rfl, BL.out⟩
      | cons x xs =>
        have R : Hid (gpsB (x :: xs) = true) := hidI (by simp only [gpsB, AE.out.1, AE.out.2]; rfl)
        have g1 : (0 : Int) < (((x :: xs).length : Nat) : Int) := by simp only [List.length_cons]; omega
        have g2 : decide (0 < (x :: xs).length) = true := by simp
        obtain ⟨L, hL⟩ : ∃ L, (x :: xs).length = L := ⟨_, rfl⟩
        rw [hL] at g1 g2 d1 ll ⊢
        clear hL
        go_wp2_with fail
        go_ret
        exact ⟨by rw [R.out]; first | done | rfl | simp, BL.out⟩
set_option maxRecDepth 100000 in
set_option maxHeartbeats 4000000 in
theorem goodObject_at (w : World) (ok : Nat → Prop) (t : V) (v : Value) (h : In w ok t v) :
    Calls Tryz.prog 19 #[v] w fun e w' => e = .returned (.bool (decide (t.kind = 5) && goodV t)) ∧ Below w.heap.size w w' := by
  have H := hidI h
  obtain ⟨a1, a2, c1, c2, rfl⟩ := h.form
  clear h
  by_cases hk : t.kind = 5
  · have e1 : (t.kind == 5) = true := by simp [hk]
    have R : Hid ((decide (t.kind = 5) && goodV t) = goodV t) := hidI (by simp [hk])
    clear hk
    go_enter Tryz.func19, Tryz.ntmps19
    go_wp2_with (go_at_call 13; refine (good_is _ ok t _ (by exact H.out.bel (bel_alloc _ _))).mono ?_; rintro e w1 ⟨rfl, hb⟩; have B := hidI (bel_trans (bel_alloc _ _) hb); clear hb)
    go_ret
    exact ⟨by rw [R.out]; first | done | rfl | simp, B.out⟩
  · have e1 : (t.kind == 5) = false := by rw [beq_eq_false_iff_ne]; exact hk
    have R : Hid ((decide (t.kind = 5) && goodV t) = false) := hidI (by simp [hk])
    clear hk
    go_enter Tryz.func19, Tryz.ntmps19
    go_wp2_with fail
    go_ret
    exact ⟨by rw [R.out]; first | done | rfl | simp, bel_alloc _ _⟩
end Go.Proofs.YtmdemcjmcnfjmaaGreatDoor

/- What SortFunc of package slices does with texts; what Leaves of package owner answers. -/
set_option linter.unusedSimpArgs false
set_option linter.unusedVariables false
namespace Go.Proofs.YtmdemcjmcnfjmaaGreatDoor
open Go.RowKit Go.Shelf Go.Sort

def encS (x : List UInt8) : Value := .string ⟨x.toArray⟩
theorem lt_cmp (x y : List UInt8) : ltOf Lib.compareBytes x y = Op.bytesLess x y := by
  unfold ltOf
  rw [Bool.eq_iff_iff, decide_eq_true_eq]
  exact cmp_lt x y
theorem swo_cmp : SWO (ltOf Lib.compareBytes) where
  irrefl x := by rw [lt_cmp]; exact less_irrefl x
  trans x y z h1 h2 := by rw [lt_cmp] at *; exact less_trans _ _ _ h1 h2
  ntrans x y z h1 h2 := by
    rw [lt_cmp] at *
    exact le_trans' (a := z) (b := y) (c := x) h2 h1
theorem sorted_list {L : List (List UInt8)} {d : Array (List UInt8)} (hp : PermIn 0 L.length L.toArray d) (hs : SortedIn (ltOf Lib.compareBytes) 0 L.length d) : d.toList = sortL L := by
  obtain ⟨h1, -, h2⟩ := hp
  have hsz : d.size = L.length := by simpa using h1
  have e1 : (d.extract 0 L.length) = d := by rw [← hsz]; simp
  have e2 : (L.toArray.extract 0 L.length) = L.toArray := by
    have : L.length = L.toArray.size := by simp
    rw [this]; exact Array.extract_size
  rw [e1, e2] at h2
  refine sort_of (by simpa using h2) ?_
  rw [List.pairwise_iff_getElem]
  intro i j hi hj hij
  have hi' : i < d.size := by simpa using hi
  have hj' : j < d.size := by simpa using hj
  have := hs i j (Nat.zero_le _) hij (by omega)
  rw [lt_cmp, getElem!_pos d j hj', getElem!_pos d i hi'] at this
  simpa [LeB] using this
theorem sortWorld_block (W : World) (g m : Nat) (d : Array (List UInt8)) (os : Array Obj) (k : Nat) (hk : k < W.heap.size) (hne : k ≠ g) : (sortWorld encS W g 0 m d os).heap[k]? = W.heap[k]? := by
  change (W.heap.modify g (onCells (putCells encS 0 d)) ++ os)[k]? = W.heap[k]?
  rw [Array.getElem?_append_left (by simpa using hk), Array.getElem?_modify, if_neg (fun e => hne e.symm)]
theorem sortWorld_grows (W : World) (g m : Nat) (d : Array (List UInt8)) (os : Array Obj) : W.grownBy (sortWorld encS W g 0 m d os) (some g) := by
  refine ⟨rfl, rfl, rfl, ?_, fun k hk hr => sortWorld_block W g m d os k hk (fun e => hr (by rw [e]))⟩
  change W.heap.size ≤ (W.heap.modify g (onCells (putCells encS 0 d)) ++ os).size
  simp
theorem compare_enters : ∀ args w, (callFunc 34 args).run Tryz.prog w = .ok (.enter 34 args) w := enters_of Tryz.func34 (by kernel_rfl) rfl
theorem cmp_reads (blk off size : Nat) (w : World) : CmpReads Tryz.prog 34 #[] encS Lib.compareBytes blk off size w := fun m os dk _ x y => by
  have := Tryz.strCompare ⟨x.toArray⟩ ⟨y.toArray⟩ (sortWorld encS w blk off m dk os)
  simp only [List.toList_toArray] at this
  exact this.mono fun e w' h => ⟨h.1, 0, h.2⟩
theorem sortS_at (W : World) (B : Nat) (L : List (List UInt8)) (sv : Value) (h : W.ownsRow B 9 1 sv L.length (L.map encS)) (hl : ∀ x ∈ L, x.length ≤ maxLen) (hn : L.length < 4611686018427387904) :
    Calls Tryz.prog 33 #[sv, .func (.func 34) #[] #[]] W fun e w' => e = .returned (.tuple #[]) ∧ StrsAre w' (fun k => B ≤ k) (sortL L) sv ∧ W.grownBy w' sv.ownBlock := by
  rcases h.2 with ⟨rfl, h0⟩ | ⟨g, cap, cur, rfl, h1, h2, h3, h4, h5, h6⟩
  · have hL : L = [] := List.length_eq_zero_iff.1 h0
    subst hL
    have hc := AnyF.slices_SortFunc_none (P := Tryz.prog) (ρ := Tryz.laysSort_ren) { Tryz.laysSort with } none 0 (.func (.func 34) #[] #[]) W
    change Calls Tryz.prog 33 _ _ _ at hc
    exact hc.mono fun e w' h => ⟨h.1, ⟨by simp [sortL, maxLen], .inl ⟨rfl, none, rfl⟩⟩, by rw [h.2]; exact gb_refl _ _⟩
  · have hblk : g < W.heap.size := (Array.getElem?_eq_some_iff.1 h2).1
    have hcell : ∀ j (hj : j < L.length), cur[j]? = some (encS L[j]) := fun j hj => by
      have e := congrArg (fun l => l[j]?) h6
      simp only [Nat.mul_one, List.getElem?_take, List.getElem?_map, List.getElem?_eq_getElem hj, Option.map_some] at e
      rw [if_pos hj] at e
      simpa using e
    have hH : Holds encS W g 0 L.toArray := fun j hj => by
      have hj' : j < L.length := by simpa using hj
      rw [getElem!_pos L.toArray j hj]
      refine ⟨?_, ?_⟩
      · simp [World.cell?, h2, hcell j hj']
      · simp [World.frozen?, h2]
    have hc := Any.slices_SortFunc Tryz.laysSort encS (fun _ => rfl) Lib.compareBytes swo_cmp 34 #[] g 0 cap L.toArray W compare_enters (cmp_reads g 0 L.toArray.size W).lays hH hblk (by simpa using hn)
    have hsz : L.toArray.size = L.length := by simp
    rw [hsz] at hc
    change Calls Tryz.prog 33 _ _ _ at hc
    refine hc.mono ?_
    rintro e w' ⟨rfl, d, n, os, hp, hs, rfl⟩
    have hd := sorted_list hp hs
    have hdl : d.size = L.length := by have := hp.1; simpa using this
    have hsl : (sortL L).length = L.length := (sort_perm L).length_eq
    refine ⟨rfl, ⟨by rw [hsl]; omega, .inr ⟨g, 0, cap, by rw [hsl], by rw [hsl]; exact h3, h4, fun i x hx => ?_⟩⟩, sortWorld_grows W g n d os⟩
    obtain ⟨hi, rfl⟩ := List.getElem?_eq_some_iff.1 hx
    have hi2 : i < d.size := by rw [hdl, ← hsl]; exact hi
    refine ⟨hl _ ((sort_perm L).mem_iff.1 (List.getElem_mem hi)), h1, ?_⟩
    have hA : Holds encS (Go.Sort.ahead W n) g 0 L.toArray := hH
    have hcw := cell?_putRow encS (Go.Sort.ahead W n) g 0 L.toArray d hA (by simpa using hdl) i hi2
    unfold sortWorld
    rw [cell?_grow _ _ _ (by rw [size_putRow]; exact hblk), hcw, getElem!_pos d i hi2]
    have : d[i] = (sortL L)[i] := by
      have := congrArg (fun l => l[i]?) hd
      simp only [List.getElem?_eq_getElem hi, Array.getElem?_toList] at this
      exact (Array.getElem?_eq_some_iff.1 this).2
    rw [this]; rfl
theorem pathsU_leaves (D : Nat) (t : V) : pathsU [] (lvs D t) = (lvs D t).map joinP := by simp [pathsU]
set_option maxRecDepth 100000 in
set_option maxHeartbeats 4000000 in
theorem leaves_at (w : World) (ok : Nat → Prop) (t : V) (v : Value) (h : In w ok t v) (hM : GlobM w) :
    Calls Tryz.prog 11 #[v] w fun e w' => ∃ (a : Option Addr) (c : Nat), e = .returned (.slice a (leavesF t).length c) ∧ StrsAre w' (fun k => w.heap.size ≤ k) (leavesF t) (.slice a (leavesF t).length c) ∧ Below w.heap.size w w' := by
  have H := hidI h.low
  have HM := hidI hM
  obtain ⟨a1, a2, c1, c2, rfl⟩ := h.form
  clear h hM
  have B0 : Hid (∀ o, Below w.heap.size w (w.alloc o)) := hidI (fun o => bel_alloc _ _)
  by_cases hg : t.kind = 5 ∧ goodV t = true
  · have e1 : (decide (t.kind = 5) && goodV t) = true := by simp [hg.1, hg.2]
    have LF : Hid (leavesF t = sortL ((lvs 12 t).map joinP)) := hidI (if_pos hg)
    have GT := hidI (goodV_tree hg.2)
    have NC := hidI (nice_cnt (nice_of hg.2))
    have K5 := hidI hg.1
    have GG := hidI hg
    clear hg
    go_enter Tryz.func11, Tryz.ntmps11
    go_upto_region 3 with (go_at_call 19; refine (goodObject_at _ (fun k => ok k ∧ k < w.heap.size) t _ (by exact H.out.bel (B0.out _))).mono ?_; rintro e w1 ⟨rfl, hb1⟩; rw [e1]; have B1 := hidI (bel_trans (B0.out _) hb1); have PB := hidI (box_bel hb1 (heap_alloc_new w _)); clear hb1)
    have W2 : Hid (Below w.heap.size w (w1.alloc (.cells #[.slice none 0 0] 22))) := hidI (bel_trans B1.out (bel_alloc _ _))
    have GI : Hid (GatI (w1.alloc (.cells #[.slice none 0 0] 22)) w1.heap.size [] none) := hidI ⟨.slice none 0 0, heap_alloc_new _ _, World.ownsRow_nil _ _ _ _, rfl⟩
    have LO : Hid (∀ k, (ok k ∧ k < w.heap.size) → k < w1.heap.size) := hidI (fun k hk => by have := B1.out.size; omega)
    have GMA : Hid (∀ W, Below w1.heap.size (w1.alloc (.cells #[.slice none 0 0] 22)) W → GlobM W) := hidI (fun W hW => HM.out.bel (W2.out.trans (hW.mono B1.out.size)))
    have CALL := hidI (gather_at 12 (w1.alloc (.cells #[.slice none 0 0] 22)) (fun k => ok k ∧ k < w.heap.size) t _ [] w1.heap.size [] none (by exact H.out.bel W2.out) LO.out GT.out K5.out (by simp) (by have := NC.out; simp; omega) GI.out GMA.out)
    obtain ⟨q0, q1, q2, q3, q4, -⟩ := BoxIs.c (box_bel (bel_alloc w1 (.cells #[.slice none 0 0] 22)) PB.out)
    go_upto_region 5 with (go_at_call 32; refine CALL.out.mono ?_; rintro e w3 ⟨rfl, r3, hg3, hk3, hf3⟩; rw [List.nil_append, pathsU_leaves] at hg3; have G3 := hidI hg3; have L3 : Hid (Below w1.heap.size (w1.alloc (.cells #[.slice none 0 0] 22)) w3) := hidI (hk3.low (by simp) (by intro g hg; cases hg)); clear hg3 hk3 hf3 q0 q1 q2 q3 q4)
    obtain ⟨sv, s1, s2, s3⟩ := G3.out
    have c0 : w3.cell? ⟨w1.heap.size, 0, none⟩ = some sv := by simp [World.cell?, s1]
    have SC := hidI (sortS_at w3 (w1.heap.size + 1) ((lvs 12 t).map joinP) sv s2 (fun x hx => by
      obtain ⟨ns, hn, rfl⟩ := List.mem_map.1 hx
      have := lvs_len 12 t ns GT.out K5.out hn
      unfold maxLen; omega) (by
      have := lvs_cnt 12 t
      have h9 := cnt_eq t
      have := NC.out
      rw [List.length_map]; omega))
    have S1 := hidI s1
    have S2 := hidI s2
    obtain ⟨sa, sn, sc, hsv⟩ : ∃ sa sn sc, sv = .slice sa sn sc := by
      rcases s2.2 with ⟨h9, -⟩ | ⟨_, _, _, h9, -⟩
      · exact ⟨_, _, _, h9⟩
      · exact ⟨_, _, _, h9⟩
    subst hsv
    clear s1 s2 s3
    go_upto_region 6 with (go_at_call 33; refine SC.out.mono ?_; rintro e w4 ⟨rfl, hst, hgb⟩; have ST := hidI hst; have GB := hidI hgb; clear hst hgb)
    have c4 : w4.cell? ⟨w1.heap.size, 0, none⟩ = some (.slice sa sn sc) := by
      have hlt : w1.heap.size < w3.heap.size := (Array.getElem?_eq_some_iff.1 S1.out).1
      have := GB.out.block w1.heap.size hlt (fun e => by have := (own_lt S2.out e.symm).1; omega)
      simp [World.cell?, this, S1.out]
    have BB : Hid (Below w.heap.size w w4) := hidI (by
      have h1 : Below w1.heap.size w3 w4 := ⟨GB.out.os, GB.out.tape, GB.out.output, GB.out.size, fun k hk => by
        have hlt : w1.heap.size < w3.heap.size := (Array.getElem?_eq_some_iff.1 S1.out).1
        exact GB.out.block k (by omega) (fun e => by have := (own_lt S2.out e.symm).1; omega)⟩
      exact (W2.out.trans (L3.out.mono B1.out.size)).trans (h1.mono B1.out.size))
    have SN : Hid (sn = (leavesF t).length) := hidI (by
      obtain ⟨a9, c9, e9⟩ := ST.out.form
      simp only [Value.slice.injEq] at e9
      rw [LF.out]; exact e9.2.1)
    have SZ : Hid (w.heap.size ≤ w1.heap.size) := hidI B1.out.size
    clear c0
    go_wp2_with fail
    go_ret
    refine ⟨sa, sc, by rw [← SN.out]; rfl, ?_, BB.out⟩
    rw [← SN.out, LF.out]
    exact ST.out.imp fun a x h1 h2 => ⟨Nat.le_trans SZ.out (Nat.le_of_succ_le h1), h2⟩
  · have e1 : (decide (t.kind = 5) && goodV t) = false := by
      rw [Bool.and_eq_false_iff]
      by_cases h9 : t.kind = 5
      · right; rw [Bool.eq_false_iff]; exact fun h8 => hg ⟨h9, h8⟩
      · left; exact decide_eq_false h9
    have LF : Hid (leavesF t = []) := hidI (if_neg hg)
    clear hg
    go_enter Tryz.func11, Tryz.ntmps11
    go_wp2_with (go_at_call 19; refine (goodObject_at _ (fun k => ok k ∧ k < w.heap.size) t _ (by exact H.out.bel (B0.out _))).mono ?_; rintro e w1 ⟨rfl, hb1⟩; rw [e1]; have B1 := hidI (bel_trans (B0.out _) hb1); clear hb1)
    go_ret
    exact ⟨none, 0, by rw [LF.out]; rfl, by rw [LF.out]; exact ⟨by simp, .inl ⟨rfl, none, rfl⟩⟩, B1.out⟩
end Go.Proofs.YtmdemcjmcnfjmaaGreatDoor

/- What Named of package owner does. -/
set_option linter.unusedSimpArgs false
set_option linter.unusedVariables false
namespace Go.Proofs.YtmdemcjmcnfjmaaGreatDoor
open Go.RowKit

set_option maxRecDepth 100000 in
set_option maxHeartbeats 4000000 in
theorem named_at (w : World) (s : List UInt8) (hs : s.length ≤ 9223372036854775807) :
    Calls Tryz.prog 20 #[str s] w fun e w' => e = .returned (.bool (namedB s)) ∧ w' = w := by
  have bl : (ByteArray.mk s.toArray).size = s.length := by simp [ByteArray.size]
  unfold str
  by_cases hsn : s = []
  · subst hsn
    have R : Hid (namedB [] = false) := hidI rfl
    clear bl hs
    go_enter Tryz.func20, Tryz.ntmps20
    go_wp2_with fail
    go_ret
    exact ⟨by rw [R.out]; first | done | rfl, rfl⟩
  · have hne : s.isEmpty = false := by cases s with | nil => exact absurd rfl hsn | cons c r => rfl
    have hne2 : (s == []) = false := by cases s with | nil => exact absurd rfl hsn | cons c r => rfl
    have NE := hidI hne
    clear hsn
    by_cases h12 : s.length ≤ 12
    · have g12 : ¬ (12 : Int) < (s.length : Int) := by omega
      have g13 : decide (12 < s.length) = false := decide_eq_false (by omega)
      have H12 := hidI h12
      go_enter Tryz.func20, Tryz.ntmps20
      go_wp2_with fail
      go_loopg [3] s.length (fun gk iv wr => ∃ k : Nat, k ≤ s.length ∧ gk = s.length - k ∧ iv = .int .i64 k ∧ Hid ((s.take k).all lowB = true) ∧ wr = w)
      case atStart => exact ⟨0, Nat.zero_le _, rfl, rfl, hidI rfl, rfl⟩
      case round =>
        obtain ⟨k, hk, hgk, rfl, AL, hw⟩ := hrel
        have hw' := hw.symm
        subst hw'
        have GK := hidI hgk
        clear hgk hw
        by_cases hlt : k < s.length
        · have hszm : k < (ByteArray.mk s.toArray).size := by rw [bl]; exact hlt
          have hgetm : (ByteArray.mk s.toArray)[k] = s[k] := rfl
          have v1 : (0 : Int) ≤ (k : Int) := by omega
          have v2 : (k : Int) < (s.length : Int) := by omega
          have TK : Hid ((s.take (k + 1)).all lowB = (true && lowB s[k])) := hidI (by rw [List.take_succ_eq_append_getElem hlt, List.all_append, AL.out]; simp)
          have SK : Hid (lowB s[k] = false → namedB s = false) := hidI (fun h => by
            unfold namedB
            have : s.all lowB = false := by rw [List.all_eq_false]; exact ⟨s[k], List.getElem_mem hlt, by rw [h]; simp⟩
            rw [this]; simp)
          obtain ⟨c, hc⟩ : ∃ c, s[k] = c := ⟨_, rfl⟩
          rw [hc] at hgetm TK SK
          have hc256 : (c.toNat : Int) < 256 := by have := c.toNat_lt; omega
          clear hc
          by_cases hlo : c.toNat < 97
          · have e1 : (c.toNat : Int) < 97 := by omega
            have R := hidI (SK.out (by simp [lowB]; omega))
            go_wp2_with fail
            go_ret
            exact ⟨by rw [R.out]; first | done | rfl, rfl⟩
          · have e1 : ¬ (c.toNat : Int) < 97 := by omega
            by_cases hhi : 122 < c.toNat
            · have e2 : (122 : Int) < (c.toNat : Int) := by omega
              have R := hidI (SK.out (by simp [lowB]; omega))
              go_wp2_with fail
              go_ret
              exact ⟨by rw [R.out]; first | done | rfl, rfl⟩
            · have e2 : ¬ (122 : Int) < (c.toNat : Int) := by omega
              have NX : Hid ((s.take (k + 1)).all lowB = true) := hidI (by rw [TK.out]; simp [lowB]; omega)
              go_wp2_with fail
              go_roundg (s.length - (k + 1))
              case measure => rw [GK.out]; omega
              case rel => exact ⟨k + 1, by omega, rfl, by go_num, NX, rfl⟩
        · have d1 : ¬ (k : Int) < (s.length : Int) := by omega
          have R : Hid (namedB s = true) := hidI (by
            have h9 := AL.out
            rw [List.take_of_length_le (by omega)] at h9
            simp [namedB, NE.out, H12.out, h9])
          go_wp2_with fail
          go_ret
          exact ⟨by rw [R.out]; first | done | rfl, rfl⟩
    · have g12 : (12 : Int) < (s.length : Int) := by omega
      have g13 : decide (12 < s.length) = true := decide_eq_true (by omega)
      have R : Hid (namedB s = false) := hidI (by simp [namedB, h12])
      go_enter Tryz.func20, Tryz.ntmps20
      go_wp2_with fail
      go_ret
      exact ⟨by rw [R.out]; first | done | rfl, rfl⟩
end Go.Proofs.YtmdemcjmcnfjmaaGreatDoor

/- A region that draws its order, that only reads, and whose callees may make memory of their own: walked once, in the order of the text. -/
set_option linter.unusedSimpArgs false
set_option linter.unusedVariables false
namespace Go.Proofs.YtmdemcjmcnfjmaaGreatDoor
open Go.RowKit

/- A world in which all that was is as it was. -/
structure BelW (w : World) where
  W : World
  h : Below w.heap.size w W
theorem wp_region_below {P : Program} {id : Nat} {Q : Exit → Act → World → Prop} {a : Act} {w : World} {l : List Oper} (hm : P.follows .mixedOrders = true) (hB : Region.lexB .any l.toArray = true)
    (h : wpQuiet P l.toArray (fun w' => ∃ p : BelW w, w' = p.W) (fun a' => ∀ w', (∃ p : BelW w, w' = p.W) → Q .normal a' w') l a) : (Code.region id l.toArray true).wp P Q a w :=
  wp_region_quiet (C := fun w' => ∃ p : BelW w, w' = p.W) hm hB ⟨⟨w.drew, (Below.refl _ w).drew⟩, rfl⟩ (by simpa using h)
theorem cell_belW {w : World} {a : Addr} {v : Value} (h : w.cell? a = some v) (p : BelW w) : p.W.cell? a = some v := cell_bel p.h h
theorem Calls.belW {P : Program} {f : FuncId} {args : Array Value} {w : World} {p : BelW w} {v : Value}
    (h : Calls P f args p.W fun e w' => e = .returned v ∧ Below p.W.heap.size p.W w') : Calls P f args p.W fun e w'' => e = .returned v ∧ ∃ q : BelW w, w'' = q.W :=
  h.mono fun _ w' ⟨he, hq⟩ => ⟨he, ⟨w', bel_trans p.h hq⟩, rfl⟩
end Go.Proofs.YtmdemcjmcnfjmaaGreatDoor

/- What Good of package owner does. -/
set_option linter.unusedSimpArgs false
set_option linter.unusedVariables false
namespace Go.Proofs.YtmdemcjmcnfjmaaGreatDoor
open Go.RowKit

theorem goodOs_long {xs : List Own} (h : 6 < xs.length) : goodOs xs = false := by
  have : decide (xs.length ≤ 6) = false := decide_eq_false (by omega)
  simp [goodOs, this]
theorem goodOs_bad {xs : List Own} {k : Nat} (hk : k < xs.length) (h : ownB xs[k] = false) : goodOs xs = false := by
  have : xs.all ownB = false := by rw [List.all_eq_false]; exact ⟨xs[k], List.getElem_mem _, by simp [h]⟩
  simp [goodOs, this]
theorem goodOs_badR {xs : List Own} {j : Nat} (hj : j + 1 < xs.length) (h : Op.bytesLess xs[j].name xs[j + 1].name = false) : goodOs xs = false := by
  have : risesB (xs.map Own.name) = false := rises_bad (j := j) (by simpa using hj) (by simpa using h)
  simp [goodOs, this]
theorem goodOs_end {xs : List Own} (h : xs.length ≤ 6) (h1 : xs.all ownB = true) (h2 : risesB (xs.map Own.name) = true) : goodOs xs = true := by
  unfold goodOs; rw [decide_eq_true h, h1, h2]; rfl
theorem names_take {xs : List Own} {j : Nat} (h : j + 1 < xs.length) : risesB ((xs.take (j + 2)).map Own.name) = (risesB ((xs.take (j + 1)).map Own.name) && Op.bytesLess xs[j].name xs[j + 1].name) := by
  have := rises_take (xs := xs.map Own.name) (j := j) (by simpa using h)
  simpa only [List.map_take, List.getElem_map] using this
theorem names_one (xs : List Own) : risesB ((xs.take 1).map Own.name) = true := by rw [List.map_take]; exact rises_one _

set_option maxRecDepth 100000 in
set_option maxHeartbeats 4000000 in
theorem goodOwners_at (w : World) (ok : Nat → Prop) (xs : List Own) (v : Value) (h : OwnsAre w ok xs v) (hP : ∀ o ∈ xs, ∀ x ∈ o.paths, x.length ≤ 140737488351232) (hM : GlobM w) :
    Calls Tryz.prog 12 #[v] w fun e w' => e = .returned (.bool (goodOs xs)) ∧ Below w.heap.size w w' := by
  obtain ⟨a, c, rfl⟩ := h.form
  have H := hidI h
  have HP := hidI hP
  have HM := hidI hM
  have ll := h.1
  unfold maxLen at ll
  clear h hP hM
  by_cases h6 : 6 < xs.length
  · have R := hidI (goodOs_long h6)
    have g1 : (6 : Int) < (xs.length : Int) := by omega
    have g2 : decide (6 < xs.length) = true := decide_eq_true h6
    go_enter Tryz.func12, Tryz.ntmps12
    go_wp2_with fail
    go_ret
    exact ⟨by rw [R.out]; rfl, Below.refl _ _⟩
  have g1 : ¬ (6 : Int) < (xs.length : Int) := by omega
  have g2 : decide (6 < xs.length) = false := decide_eq_false h6
  have L6 : Hid (xs.length ≤ 6) := hidI (by omega)
  clear h6
  go_enter Tryz.func12, Tryz.ntmps12
  go_wp2_with fail
  go_loopg [10] xs.length (fun gk i wr => ∃ k : Nat, k ≤ xs.length ∧ gk = xs.length - k ∧ i = .int .i64 k ∧ Hid ((xs.take k).all ownB = true ∧ risesB ((xs.take k).map Own.name) = true) ∧ Hid (Below w.heap.size w wr))
  case atStart => exact ⟨0, Nat.zero_le _, rfl, rfl, ⟨rfl, rfl⟩, Below.refl _ _⟩
  case round =>
    obtain ⟨k, hk, hgk, rfl, AL, BL⟩ := hrel
    have GK := hidI hgk
    clear hgk
    by_cases hlt : k < xs.length
    · obtain ⟨b, off, pa, pc, rfl, hc1, hc2, hn0, hp0, hst, hnl⟩ := H.out.at hlt
      have hn := cell_bel BL.out hn0
      have hp := cell_bel BL.out hp0
      have w2 : (k : Int) < (xs.length : Int) := by omega
      have ST := hidI hst
      have HPK := hidI (HP.out xs[k] (List.getElem_mem _))
      have PV : Hid (∀ j, k = j + 1 → w.cell? ⟨b, off + j * 2, none⟩ = some (.string ⟨xs[k - 1].name.toArray⟩)) := hidI (fun j hj => by
        subst hj
        obtain ⟨b', off', _, _, e, -, -, h9, -⟩ := H.out.at (k := j) (by omega)
        cases e; exact h9)
      have OB : Hid (ownB xs[k] = (namedB xs[k].name && gpsB xs[k].paths)) := hidI rfl
      have AT : Hid (ownB xs[k] = true → (xs.take (k + 1)).all ownB = true) := hidI (fun h9 => all_take hlt AL.out.1 h9)
      have BD : Hid (ownB xs[k] = false → goodOs xs = false) := hidI (fun h9 => goodOs_bad hlt h9)
      have RT : Hid (∀ j (hj : k = j + 1), risesB ((xs.take (k + 1)).map Own.name) = (risesB ((xs.take k).map Own.name) && Op.bytesLess xs[k - 1].name xs[k].name) ∧ (Op.bytesLess xs[k - 1].name xs[k].name = false → goodOs xs = false)) := hidI (fun j hj => by
        subst hj
        exact ⟨names_take hlt, fun h9 => goodOs_badR hlt h9⟩)
      clear hn0 hp0 hst
      obtain ⟨nm, hnm⟩ : ∃ nm, xs[k].name = nm := ⟨_, rfl⟩
      obtain ⟨ps, hps⟩ : ∃ ps, xs[k].paths = ps := ⟨_, rfl⟩
      rw [hps] at hp ST HPK OB
      rw [hnm] at hn hnl OB RT
      obtain ⟨W5, hW5⟩ : ∃ W, W = wr.alloc (.cells #[.string ⟨nm.toArray⟩, .slice pa ps.length pc] 41) := ⟨_, rfl⟩
      have B5 : Hid (Below w.heap.size w W5) := hidI (by rw [hW5]; exact bel_trans BL.out (bel_alloc _ _))
      have s0 : ∀ p : BelW W5, p.W.cell? ⟨wr.heap.size, 0, none⟩ = some (.string ⟨nm.toArray⟩) := cell_belW (by rw [hW5]; exact (box2 (heap_alloc_new _ _)).1)
      have s1 : ∀ p : BelW W5, p.W.cell? ⟨wr.heap.size, 1, none⟩ = some (.slice pa ps.length pc) := cell_belW (by rw [hW5]; exact (box2 (heap_alloc_new _ _)).2)
      have NM : Hid (∀ (o : Bool), namedB nm = o → ∀ p : BelW W5, Calls Tryz.prog 20 #[.string ⟨nm.toArray⟩] p.W fun e w'' => e = .returned (.bool o) ∧ ∃ q : BelW W5, w'' = q.W) := hidI (fun o ho p => Calls.belW ((named_at p.W nm hnl).mono fun e w4 h9 => ⟨by rw [← ho]; exact h9.1, by rw [h9.2]; exact Below.refl _ _⟩))
      have GP : Hid (∀ (o : Bool), gpsB ps = o → ∀ p : BelW W5, Calls Tryz.prog 35 #[.slice pa ps.length pc] p.W fun e w'' => e = .returned (.bool o) ∧ ∃ q : BelW W5, w'' = q.W) := hidI (fun o ho p => Calls.belW ((goodPaths_at p.W ok ps _ ((ST.out.bel B5.out).bel p.h) HPK.out (HM.out.bel (bel_trans B5.out p.h))).mono fun e w4 h9 => ⟨by rw [← ho]; exact h9.1, h9.2⟩))
      have hmix : Tryz.prog.follows .mixedOrders = true := by kernel_rfl
      have HW := hidI hW5
      have hne : Nonempty (BelW W5) := ⟨⟨W5, Below.refl _ _⟩⟩
      clear hnm hps hW5
      cases hna : namedB nm with
      | false =>
        have NM2 := hidI (NM.out false hna)
        have R := hidI (BD.out (by rw [OB.out, hna]; rfl))
        clear hna
        go_wp2_with fail
        rw [← HW.out]
        refine wp_region_below (by assumption) (by kernel_rfl) ?_
        repeat (first | go_big_quiet_step ((go_at_call 20; exact NM2.out _)) | quiet_step ((go_at_call 20; exact NM2.out _)))
        refine wpQuiet_nil ?_
        intro _ hw'
        obtain ⟨pq, hw''⟩ := hw'
        subst hw''
        go_wp2_with fail
        go_ret
        exact ⟨by rw [R.out]; rfl, bel_trans B5.out pq.h⟩
      | true =>
        have NM2 := hidI (NM.out true hna)
        have NA := hidI hna
        clear hna
        cases k with
        | zero =>
          rw [Nat.zero_mul, Nat.add_zero] at hn hp
          cases hg : gpsB ps with
          | false =>
            have GP2 := hidI (GP.out false hg)
            have R := hidI (BD.out (by rw [OB.out, NA.out, hg]; rfl))
            clear hg
            go_wp2_with fail
            rw [← HW.out]
            refine wp_region_below (by assumption) (by kernel_rfl) ?_
            repeat (first | go_big_quiet_step ((first | (go_at_call 20; exact NM2.out _) | (go_at_call 35; exact GP2.out _))) | quiet_step ((first | (go_at_call 20; exact NM2.out _) | (go_at_call 35; exact GP2.out _))))
            refine wpQuiet_nil ?_
            intro _ hw'
            obtain ⟨pq, hw''⟩ := hw'
            subst hw''
            go_wp2_with fail
            go_ret
            exact ⟨by rw [R.out]; rfl, bel_trans B5.out pq.h⟩
          | true =>
            have GP2 := hidI (GP.out true hg)
            have A2 := hidI (AT.out (by rw [OB.out, NA.out, hg]; rfl))
            clear hg
            go_wp2_with fail
            rw [← HW.out]
            refine wp_region_below (by assumption) (by kernel_rfl) ?_
            repeat (first | go_big_quiet_step ((first | (go_at_call 20; exact NM2.out _) | (go_at_call 35; exact GP2.out _))) | quiet_step ((first | (go_at_call 20; exact NM2.out _) | (go_at_call 35; exact GP2.out _))))
            refine wpQuiet_nil ?_
            intro _ hw'
            obtain ⟨pq, hw''⟩ := hw'
            subst hw''
            go_wp2_with fail
            go_roundg (xs.length - 1)
            case measure => rw [GK.out]; omega
            case rel => exact ⟨1, by omega, rfl, by go_num, ⟨A2.out, names_one xs⟩, bel_trans B5.out pq.h⟩
        | succ j =>
          have j0 : (0 : Int) < ((j + 1 : Nat) : Int) := by omega
          have s2 : ∀ p : BelW W5, p.W.cell? ⟨b, off + j * 2, none⟩ = some (.string ⟨xs[j].name.toArray⟩) := cell_belW (by have := cell_bel B5.out (PV.out j rfl); simpa only [Nat.add_sub_cancel] using this)
          obtain ⟨RT1, RT2⟩ := RT.out j rfl
          simp only [Nat.add_sub_cancel] at RT1 RT2
          obtain ⟨nj, hnj⟩ : ∃ nj, xs[j].name = nj := ⟨_, rfl⟩
          rw [hnj] at s2 RT1 RT2
          have RTA := hidI RT1
          have RTB := hidI RT2
          clear hnj RT1 RT2
          cases hbl : Op.bytesLess nj nm with
          | false =>
            have R := hidI (RTB.out hbl)
            go_wp2_with fail
            rw [← HW.out]
            refine wp_region_below (by assumption) (by kernel_rfl) ?_
            repeat (first | go_big_quiet_step ((go_at_call 20; exact NM2.out _)) | quiet_step ((go_at_call 20; exact NM2.out _)))
            refine wpQuiet_nil ?_
            intro _ hw'
            obtain ⟨pq, hw''⟩ := hw'
            subst hw''
            go_wp2_with fail
            go_ret
            exact ⟨by rw [R.out]; rfl, bel_trans B5.out pq.h⟩
          | true =>
            cases hg : gpsB ps with
            | false =>
              have GP2 := hidI (GP.out false hg)
              have R := hidI (BD.out (by rw [OB.out, NA.out, hg]; rfl))
              clear hg
              go_wp2_with fail
              rw [← HW.out]
              refine wp_region_below (by assumption) (by kernel_rfl) ?_
              repeat (first | go_big_quiet_step ((first | (go_at_call 20; exact NM2.out _) | (go_at_call 35; exact GP2.out _))) | quiet_step ((first | (go_at_call 20; exact NM2.out _) | (go_at_call 35; exact GP2.out _))))
              refine wpQuiet_nil ?_
              intro _ hw'
              obtain ⟨pq, hw''⟩ := hw'
              subst hw''
              go_wp2_with fail
              go_ret
              exact ⟨by rw [R.out]; rfl, bel_trans B5.out pq.h⟩
            | true =>
              have GP2 := hidI (GP.out true hg)
              have A2 := hidI (AT.out (by rw [OB.out, NA.out, hg]; rfl))
              have HBL := hidI hbl
              clear hg
              go_wp2_with fail
              rw [← HW.out]
              refine wp_region_below (by assumption) (by kernel_rfl) ?_
              repeat (first | go_big_quiet_step ((first | (go_at_call 20; exact NM2.out _) | (go_at_call 35; exact GP2.out _))) | quiet_step ((first | (go_at_call 20; exact NM2.out _) | (go_at_call 35; exact GP2.out _))))
              refine wpQuiet_nil ?_
              intro _ hw'
              obtain ⟨pq, hw''⟩ := hw'
              subst hw''
              go_wp2_with fail
              go_roundg (xs.length - (j + 1 + 1))
              case measure => rw [GK.out]; omega
              case rel => exact ⟨j + 1 + 1, by omega, rfl, by go_num, ⟨A2.out, by rw [RTA.out, AL.out.2, HBL.out]; rfl⟩, bel_trans B5.out pq.h⟩
    · have d1 : ¬ (k : Int) < (xs.length : Int) := by omega
      have hke : k = xs.length := by omega
      have R : Hid (goodOs xs = true) := hidI (by have := AL.out; rw [hke, List.take_length] at this; exact goodOs_end L6.out this.1 this.2)
      clear hke
      go_wp2_with fail
      go_ret
      exact ⟨by rw [R.out]; rfl, BL.out⟩
end Go.Proofs.YtmdemcjmcnfjmaaGreatDoor

/- What Conflicts of package owner answers. -/
set_option linter.unusedSimpArgs false
set_option linter.unusedVariables false
namespace Go.Proofs.YtmdemcjmcnfjmaaGreatDoor
open Go.RowKit

/- What lies there for the function: the name, the wish, the value. -/
structure CapI (w0 : World) (ok ok' : Nat → Prop) (who : List UInt8) (want t : V) (L : List (List UInt8)) (g2 g9 g4 : Nat) (a1 a2 a3 b1 b2 : Option Addr) (c1 c2 c3 d1 d2 : Nat) : Prop where
  who : w0.cell? ⟨g2, 0, none⟩ = some (.string ⟨who.toArray⟩)
  wish : w0.heap[g9]? = some (.cells #[.int .i64 want.kind, .int .i64 want.n, .string ⟨want.s.toArray⟩, .slice a1 want.keys.length c1, .slice a2 want.l.length c2, .slice a3 L.length c3] 53)
  val : BoxIs w0 g4 (.int .i64 t.kind) (.int .i64 t.n) (.string ⟨t.s.toArray⟩) (.slice b1 t.keys.length d1) (.slice b2 t.l.length d2)
  isWish : WishIs w0 ok want L (.agg #[.int .i64 want.kind, .int .i64 want.n, .string ⟨want.s.toArray⟩, .slice a1 want.keys.length c1, .slice a2 want.l.length c2, .slice a3 L.length c3])
  isVal : In w0 ok' t (.agg #[.int .i64 t.kind, .int .i64 t.n, .string ⟨t.s.toArray⟩, .slice b1 t.keys.length d1, .slice b2 t.l.length d2])
  glob : GlobM w0
  cnts : cnt t ≤ 2000000000000
  rises : Rises L
  len : L.length < 4611686018427387904
theorem CapI.bel {w0 w1 : World} {ok ok' : Nat → Prop} {who : List UInt8} {want t : V} {L : List (List UInt8)} {g2 g9 g4 : Nat} {a1 a2 a3 b1 b2 : Option Addr} {c1 c2 c3 d1 d2 : Nat} (h : CapI w0 ok ok' who want t L g2 g9 g4 a1 a2 a3 b1 b2 c1 c2 c3 d1 d2) (hb : Below w0.heap.size w0 w1) : CapI w1 ok ok' who want t L g2 g9 g4 a1 a2 a3 b1 b2 c1 c2 c3 d1 d2 :=
  ⟨cell_bel hb h.who, blk_bel hb h.wish, box_bel hb h.val, h.isWish.bel hb, h.isVal.bel hb, h.glob.bel hb, h.cnts, h.rises, h.len⟩
theorem CapI.blocked {w0 : World} {ok ok' : Nat → Prop} {who : List UInt8} {want t : V} {L : List (List UInt8)} {g2 g9 g4 : Nat} {a1 a2 a3 b1 b2 : Option Addr} {c1 c2 c3 d1 d2 : Nat} (h : CapI w0 ok ok' who want t L g2 g9 g4 a1 a2 a3 b1 b2 c1 c2 c3 d1 d2) (p : List UInt8) (hp : p.length ≤ 140737488351232) :
    Calls Tryz.prog 25 #[.agg #[.int .i64 want.kind, .int .i64 want.n, .string ⟨want.s.toArray⟩, .slice a1 want.keys.length c1, .slice a2 want.l.length c2, .slice a3 L.length c3], .agg #[.int .i64 t.kind, .int .i64 t.n, .string ⟨t.s.toArray⟩, .slice b1 t.keys.length d1, .slice b2 t.l.length d2], .string ⟨p.toArray⟩] w0 fun e w' => e = .returned (.bool (blockedF want t L p)) ∧ Below w0.heap.size w0 w' :=
  blockedBy_at w0 ok ok' want t L _ _ p h.isWish h.isVal hp h.glob h.cnts h.rises h.len
theorem pick_snoc (who : List UInt8) (blk : List UInt8 → Bool) (d : List (List UInt8 × List UInt8)) (n p : List UInt8) : pick who blk (d ++ [(n, p)]) = if (n != who && blk p) = true then pick who blk d ++ [(n, p)] else pick who blk d := by
  unfold pick
  rw [List.filter_append]
  cases h : (n != who && blk p) with
  | true => simp [h]
  | false => simp [h]

set_option maxRecDepth 100000 in
set_option maxHeartbeats 4000000 in
theorem conf1_at (w0 W : World) (ok ok' : Nat → Prop) (who : List UInt8) (want t : V) (L : List (List UInt8)) (g2 g9 g4 : Nat) (a1 a2 a3 b1 b2 : Option Addr) (c1 c2 c3 d1 d2 N : Nat) (d : List (List UInt8 × List UInt8)) (F : Nat → Prop) (n p : List UInt8)
    (hc : CapI w0 ok ok' who want t L g2 g9 g4 a1 a2 a3 b1 b2 c1 c2 c3 d1 d2) (hI : ConI w0 who (blockedF want t L) N d F W) (hN : d.length ≤ 4000000) (hp : p.length ≤ 140737488351232) :
    Calls Tryz.prog 49 #[.string ⟨n.toArray⟩, .string ⟨p.toArray⟩, .pointer (some ⟨g2, 0, none⟩), .pointer (some ⟨g9, 0, none⟩), .pointer (some ⟨g4, 0, none⟩), .pointer (some ⟨w0.heap.size, 0, none⟩)] W fun e w' => e = .returned (.tuple #[]) ∧ ConI w0 who (blockedF want t L) N (d ++ [(n, p)]) F w' ∧ W.heap.size ≤ w'.heap.size ∧ ∀ k, F k → k < W.heap.size → w'.heap[k]? = W.heap[k]? := by
  have C := hidI (hc.bel hI.1.1)
  have HI := hidI hI
  have PS := hidI (pick_snoc who (blockedF want t L) d n p)
  have PL : Hid ((pick who (blockedF want t L) d).length ≤ 4000000) := hidI (Nat.le_trans (List.length_filter_le _ _) hN)
  have BK := hidI (C.out.blocked p hp)
  have q9 := C.out.who
  obtain ⟨x0, x1, x2, x3, x4, x5⟩ := box6 C.out.wish
  obtain ⟨y0, y1, y2, y3, y4, -⟩ := C.out.val.c
  clear hc hI
  by_cases hn : n = who
  · have R : Hid (pick who (blockedF want t L) (d ++ [(n, p)]) = pick who (blockedF want t L) d) := hidI (by rw [PS.out, if_neg (by simp [hn])])
    subst hn
    go_enter Tryz.func49, Tryz.ntmps49
    go_wp2_with fail
    go_end0
    exact ⟨rfl, by unfold ConI; rw [R.out]; exact HI.out, Nat.le_refl _, fun _ _ _ => rfl⟩
  · have e3 : Hid ((n != who) = true) := hidI (by simpa using hn)
    have e9 : (n == who) = false := by simpa using hn
    generalize hblk : blockedF want t L = blk at *
    clear hblk
    obtain ⟨o, ho⟩ : ∃ o, blk p = o := ⟨_, rfl⟩
    rw [ho, e3.out] at PS
    rw [ho] at BK
    clear ho
    cases o with
    | false =>
      have R : Hid (pick who blk (d ++ [(n, p)]) = pick who blk d) := hidI (by rw [PS.out]; rfl)
      go_enter Tryz.func49, Tryz.ntmps49
      go_wp2_with (go_at_call 25; refine BK.out.mono ?_; rintro e w1 ⟨rfl, hb⟩; have B1 := hidI hb; clear hb)
      go_end0
      exact ⟨rfl, by unfold ConI; rw [R.out]; exact ⟨HI.out.1.bel B1.out, fun k hk => Nat.lt_of_lt_of_le (HI.out.2 k hk) B1.out.size⟩, B1.out.size, fun k hk hlt => B1.out.block k hlt⟩
    | true =>
      have R : Hid (pick who blk (d ++ [(n, p)]) = pick who blk d ++ [(n, p)]) := hidI (by rw [PS.out]; rfl)
      go_enter Tryz.func49, Tryz.ntmps49
      go_upto_region 1 with (go_at_call 25; refine BK.out.mono ?_; rintro e w1 ⟨rfl, hb⟩; have B1 := hidI hb; clear hb)
      clear q9 x0 x1 x2 x3 x4 x5 y0 y1 y2 y3 y4
      have HI1 := hidI (HI.out.1.bel B1.out)
      have F1 : Hid (∀ k, F k → k < w1.heap.size) := hidI (fun k hk => Nat.lt_of_lt_of_le (HI.out.2 k hk) B1.out.size)
      obtain ⟨r1, fv, r2, r3, r4⟩ := HI1.out
      obtain ⟨PP, hPP⟩ : ∃ PP, pick who blk d = PP := ⟨_, rfl⟩
      rw [hPP] at r3 PL
      obtain ⟨g7, c7, W7, hR, ho7, hg7, hf7⟩ := run_pushC (W := w1.alloc (.cells #[.string ⟨n.toArray⟩, .string ⟨p.toArray⟩] 85)) (B := w0.heap.size + 1) (v := fv) (n := PP.length) (cs := cCells PP) (nb := w1.heap.size) (k := ⟨n.toArray⟩) (q := ⟨p.toArray⟩) (own_same r3 fun g hg => (bel_alloc _ _).block g (own_lt r3 hg).2) (heap_alloc_new _ _) PL.out (by have := (bel_alloc w1 (.cells #[.string ⟨n.toArray⟩, .string ⟨p.toArray⟩] 85)).size; have := (Array.getElem?_eq_some_iff.1 r2).1; omega) 27
      have FIN := hidI (acc_push r1 r2 r3 r4 ho7 hg7 hf7 F1.out)
      have HR := hidI hR
      have hgl : w0.heap.size < w1.heap.size := (Array.getElem?_eq_some_iff.1 r2).1
      have c0 : w1.cell? ⟨w0.heap.size, 0, none⟩ = some fv := by simp [World.cell?, r2]
      have c0a : ∀ o, (w1.alloc o).cell? ⟨w0.heap.size, 0, none⟩ = some fv := fun o => cell_bel (bel_alloc _ _) c0
      have hb7 : W7.heap[w0.heap.size]? = some (.cells #[fv] 27) := by
        rw [hg7.block _ (Nat.lt_of_lt_of_le hgl (bel_alloc w1 _).size) (fun e => by have := (own_lt r3 e.symm).1; omega), (bel_alloc w1 _).block _ hgl, r2]
      have c7a : W7.cell? ⟨w0.heap.size, 0, none⟩ = some fv := by simp [World.cell?, hb7]
      have c7f : W7.frozen? ⟨w0.heap.size, 0, none⟩ = false := by simp [World.frozen?, hb7]
      obtain ⟨sa, sn, sc, hsv⟩ : ∃ sa sn sc, fv = .slice sa sn sc := by
        rcases r3.2 with ⟨h9, -⟩ | ⟨_, _, _, h9, -⟩
        · exact ⟨_, _, _, h9⟩
        · exact ⟨_, _, _, h9⟩
      subst hsv
      have HPP := hidI hPP
      clear hPP r1 r2 r3 r4 hR ho7 hg7 hf7 hb7
      go_wp2_with (at_builtin; go_must (refine Lib.wpList_append_run _ rfl _ _ _ _ rfl (.slice sa sn sc) (.slice (some ⟨w1.heap.size, 0, none⟩) 1 1) rfl rfl _ _ HR.out ?_); refine Hid.out ?_)
      refine hidI ?_
      go_wp2_with fail
      go_end0
      refine ⟨rfl, ⟨?_, fun k hk => Nat.lt_of_lt_of_le (F1.out k hk) FIN.out.2.1⟩, Nat.le_trans B1.out.size FIN.out.2.1, fun k hk hlt => ?_⟩
      · rw [R.out, HPP.out]
        have := FIN.out.1
        simpa [cCells] using this
      · rw [FIN.out.2.2 k hk (Nat.lt_of_lt_of_le hlt B1.out.size), B1.out.block k hlt]
theorem conf1_enters : ∀ args w, (callFunc 49 args).run Tryz.prog w = .ok (.enter 49 args) w := enters_of Tryz.func49 (by kernel_rfl) rfl
end Go.Proofs.YtmdemcjmcnfjmaaGreatDoor

/- What wishOf of package owner answers. -/
set_option linter.unusedSimpArgs false
set_option linter.unusedVariables false
namespace Go.Proofs.YtmdemcjmcnfjmaaGreatDoor
open Go.RowKit

def set6c (w : World) (g : Nat) (d0 d1 d2 d3 d4 d5 : Value) : World :=
  (((((w.setCell ⟨g, 0, none⟩ d0).setCell ⟨g, 1, none⟩ d1).setCell ⟨g, 2, none⟩ d2).setCell ⟨g, 3, none⟩ d3).setCell ⟨g, 4, none⟩ d4).setCell ⟨g, 5, none⟩ d5
theorem box6f {w : World} {g : Nat} {a b c d e f : Value} {t : TypeId} (h : w.heap[g]? = some (.cells #[a, b, c, d, e, f] t)) : w.cell? ⟨g, 0, none⟩ = some a ∧ w.cell? ⟨g, 1, none⟩ = some b ∧ w.cell? ⟨g, 2, none⟩ = some c ∧ w.cell? ⟨g, 3, none⟩ = some d ∧ w.cell? ⟨g, 4, none⟩ = some e ∧ w.cell? ⟨g, 5, none⟩ = some f ∧
    w.frozen? ⟨g, 0, none⟩ = false ∧ w.frozen? ⟨g, 1, none⟩ = false ∧ w.frozen? ⟨g, 2, none⟩ = false ∧ w.frozen? ⟨g, 3, none⟩ = false ∧ w.frozen? ⟨g, 4, none⟩ = false ∧ w.frozen? ⟨g, 5, none⟩ = false := by
  refine ⟨?_, ?_, ?_, ?_, ?_, ?_, ?_, ?_, ?_, ?_, ?_, ?_⟩ <;> simp [World.cell?, World.frozen?, h]
theorem box6_set {w : World} {g : Nat} {a b c d e f : Value} {t : TypeId} (h : w.heap[g]? = some (.cells #[a, b, c, d, e, f] t)) (d0 d1 d2 d3 d4 d5 : Value) : (set6c w g d0 d1 d2 d3 d4 d5).heap[g]? = some (.cells #[d0, d1, d2, d3, d4, d5] t) :=
  heap_set (heap_set (heap_set (heap_set (heap_set (heap_set h 0 d0) 1 d1) 2 d2) 3 d3) 4 d4) 5 d5
theorem set6c_gb (w : World) (g : Nat) (d0 d1 d2 d3 d4 d5 : Value) : w.grownBy (set6c w g d0 d1 d2 d3 d4 d5) (some g) :=
  gb_set (gb_set (gb_set (gb_set (gb_set (gb_set (gb_refl _ _) _ _) _ _) _ _) _ _) _ _) _ _
theorem bel_set6c {w w1 : World} {g : Nat} (h : Below w.heap.size w w1) (hg : w.heap.size ≤ g) (d0 d1 d2 d3 d4 d5 : Value) : Below w.heap.size w (set6c w1 g d0 d1 d2 d3 d4 d5) := by
  have k := set6c_gb w1 g d0 d1 d2 d3 d4 d5
  exact ⟨k.os.trans h.os, k.tape.trans h.tape, k.output.trans h.output, Nat.le_trans h.size k.size, fun i hi => (k.block i (Nat.lt_of_lt_of_le hi h.size) (by simp; omega)).trans (h.block i hi)⟩
theorem wish_leaves {w W W2 : World} {ok : Nat → Prop} {L : List (List UInt8)} {v : Value} {d0 d1 d2 d3 d4 : Value} {T : TypeId} (h : StrsAre W (fun k => W2.heap.size ≤ k) L v) (hs : ((w.alloc (.cells #[d0, d1, d2, d3, d4] 25)).alloc (.cells #[.int .i64 0, .int .i64 0, .string ⟨#[]⟩, .slice none 0 0, .slice none 0 0, .slice none 0 0] 53)).heap.size ≤ W2.heap.size) {e0 e1 e2 e3 e4 e5 : Value} (_ : (set6c W (w.heap.size + 1) e0 e1 e2 e3 e4 e5).heap[w.heap.size + 1]? = some (.cells #[e0, e1, e2, e3, e4, e5] T)) :
    StrsAre (set6c W (w.heap.size + 1) e0 e1 e2 e3 e4 e5) (okN ok w.heap.size) L v := by
  refine h.imp fun a x h1 h2 => ⟨.inr ?_, ?_⟩
  · simp at hs; omega
  · rw [World.cell?_of_block ((set6c_gb W (w.heap.size + 1) e0 e1 e2 e3 e4 e5).block _ (World.block_lt_of_cell? _ _ h2) (by simp at hs; simp; omega))]; exact h2

attribute [local go_sem ↓] Go.wp_at_zero Go.wp_at_succ
set_option maxRecDepth 100000 in
set_option maxHeartbeats 4000000 in
theorem wishOf_at (w : World) (ok : Nat → Prop) (t : V) (v : Value) (h : In w ok t v) (hM : GlobM w) :
    Calls Tryz.prog 22 #[v] w fun e w' => ∃ r, e = .returned r ∧ WishIs w' (okN ok w.heap.size) t (leavesF t) r ∧ Below w.heap.size w w' := by
  have H := hidI h.low
  have HM := hidI hM
  obtain ⟨a1, a2, c1, c2, rfl⟩ := h.form
  clear h hM
  have B2 : Hid (Below w.heap.size w ((w.alloc (.cells #[.int .i64 t.kind, .int .i64 t.n, .string ⟨t.s.toArray⟩, .slice a1 t.keys.length c1, .slice a2 t.l.length c2] 25)).alloc (.cells #[.int .i64 0, .int .i64 0, .string ⟨#[]⟩, .slice none 0 0, .slice none 0 0, .slice none 0 0] 53))) := hidI (bel_trans (bel_alloc _ _) (bel_alloc _ _))
  have BV : Hid (BoxIs ((w.alloc (.cells #[.int .i64 t.kind, .int .i64 t.n, .string ⟨t.s.toArray⟩, .slice a1 t.keys.length c1, .slice a2 t.l.length c2] 25)).alloc (.cells #[.int .i64 0, .int .i64 0, .string ⟨#[]⟩, .slice none 0 0, .slice none 0 0, .slice none 0 0] 53)) w.heap.size (.int .i64 t.kind) (.int .i64 t.n) (.string ⟨t.s.toArray⟩) (.slice a1 t.keys.length c1) (.slice a2 t.l.length c2)) := hidI (h2a w _ _)
  have BZ : Hid (((w.alloc (.cells #[.int .i64 t.kind, .int .i64 t.n, .string ⟨t.s.toArray⟩, .slice a1 t.keys.length c1, .slice a2 t.l.length c2] 25)).alloc (.cells #[.int .i64 0, .int .i64 0, .string ⟨#[]⟩, .slice none 0 0, .slice none 0 0, .slice none 0 0] 53)).heap[w.heap.size + 1]? = some (.cells #[.int .i64 0, .int .i64 0, .string ⟨#[]⟩, .slice none 0 0, .slice none 0 0, .slice none 0 0] 53)) := hidI (h2b w _ _)
  go_enter Tryz.func22, Tryz.ntmps22
  go_upto_region 1 with fail
  refine wp_region_T (fun wS => Below ((w.alloc (.cells #[.int .i64 t.kind, .int .i64 t.n, .string ⟨t.s.toArray⟩, .slice a1 t.keys.length c1, .slice a2 t.l.length c2] 25)).alloc (.cells #[.int .i64 0, .int .i64 0, .string ⟨#[]⟩, .slice none 0 0, .slice none 0 0, .slice none 0 0] 53)).heap.size ((w.alloc (.cells #[.int .i64 t.kind, .int .i64 t.n, .string ⟨t.s.toArray⟩, .slice a1 t.keys.length c1, .slice a2 t.l.length c2] 25)).alloc (.cells #[.int .i64 0, .int .i64 0, .string ⟨#[]⟩, .slice none 0 0, .slice none 0 0, .slice none 0 0] 53)) wS) [4] (by kernel_rfl) (bel_drewN _ 1) (fun hHeld => ?_)
  refine wpAnyT_take (i := 0) (v := ?_) [3, 4] (oi := _) rfl (by kernel_rfl) (by kernel_rfl) (by kernel_rfl) (by kernel_rfl) (fun _ _ _ h => h) (Or.inl ⟨by rfl, ?_⟩) hHeld ?_
  rotate_left
  · intro wS hSw
    obtain ⟨u0, u1, u2, u3, u4, -⟩ := (box_bel hSw BV.out).c
    go_simp
    all_goals with_reducible rfl
  simp only [Act.put, List.setIfInBounds_toArray, List.set_cons_zero, List.set_cons_succ]
  refine wpAnyT_take (i := 1) (v := ?_) [2, 3, 4] (oi := _) rfl (by kernel_rfl) (by kernel_rfl) (by kernel_rfl) (by kernel_rfl) (fun _ _ _ h => h) (Or.inl ⟨by rfl, ?_⟩) hHeld ?_
  rotate_left
  · intro wS hSw
    obtain ⟨u0, u1, u2, u3, u4, -⟩ := (box_bel hSw BV.out).c
    go_simp
    all_goals with_reducible rfl
  simp only [Act.put, List.setIfInBounds_toArray, List.set_cons_zero, List.set_cons_succ]
  refine wpAnyT_ready (rs := [2]) (by kernel_rfl) (by simp) ?_
  refine AllReadyT.cons (i := 2) (o := _) rfl (fun K hK => ?_) ?_
  · go_simp
    refine (leaves_at _ (fun k => ok k ∧ k < w.heap.size) t _ (by exact (H.out.bel B2.out).bel hHeld) (by exact (HM.out.bel B2.out).bel hHeld)).mono ?_
    rintro e w2q ⟨a3, c3, rfl, hst, hb5⟩
    refine hK.out _ _ (bel_trans hHeld hb5) (fun hHeld2 => ?_)
    have ST := hidI hst
    have B5 := hidI hHeld2
    have HB5 := hidI hb5
    have HH := hidI hHeld
    clear hb5 hst
    clear hK K
    replace hHeld := hHeld2
    clear hHeld2
    try simp only [Act.put, List.setIfInBounds_toArray, List.set_cons_zero, List.set_cons_succ]
    refine wpAnyT_take (i := 3) (v := ?_) [4] (oi := _) rfl (by kernel_rfl) (by kernel_rfl) (by kernel_rfl) (by kernel_rfl) (fun _ _ _ h => h) (Or.inl ⟨by rfl, ?_⟩) hHeld ?_
    rotate_left
    · intro wS hSw
      go_simp
      all_goals with_reducible rfl
    simp only [Act.put, List.setIfInBounds_toArray, List.set_cons_zero, List.set_cons_succ]
    have ZB := hidI (blk_bel hHeld BZ.out)
    obtain ⟨n0, n1, n2, n3, n4, n5, m0, m1, m2, m3, m4, m5⟩ := box6f ZB.out
    have FIN := hidI (box6_set ZB.out (.int .i64 t.kind) (.int .i64 t.n) (.string ⟨t.s.toArray⟩) (.slice a1 t.keys.length c1) (.slice a2 t.l.length c2) (.slice a3 (leavesF t).length c3))
    have FB := hidI (bel_set6c (bel_trans B2.out hHeld) (Nat.le_succ w.heap.size) (.int .i64 t.kind) (.int .i64 t.n) (.string ⟨t.s.toArray⟩) (.slice a1 t.keys.length c1) (.slice a2 t.l.length c2) (.slice a3 (leavesF t).length c3))
    refine wpAnyT_last (i := 4) (o := _) (by kernel_rfl) (by rfl) rfl (fun K hK => ?_)
    go_simp
    refine hK.out _ _ ?_
    clear hK K
    try simp only [Act.put, List.setIfInBounds_toArray, List.set_cons_zero, List.set_cons_succ]
    refine wpAnyT_done (by kernel_rfl) ?_ _
    clear n0 n1 n2 n3 n4 n5 m0 m1 m2 m3 m4 m5
    go_wp2_with fail
    obtain ⟨z0, z1, z2, z3, z4, z5⟩ := box6 FIN.out
    refine bodyPost_ret (v := .agg #[.int .i64 t.kind, .int .i64 t.n, .string ⟨t.s.toArray⟩, .slice a1 t.keys.length c1, .slice a2 t.l.length c2, .slice a3 (leavesF t).length c3]) ?_ rfl ?_
    · simp only [set6c] at z0 z1 z2 z3 z4 z5
      simp [results, Tryz.results22, go_sem, z0, z1, z2, z3, z4, z5]
    · refine ⟨_, rfl, ⟨a1, a2, a3, c1, c2, c3, rfl, ?_, ?_⟩, FB.out⟩
      · exact (H.out.bel FB.out).weak fun k hk => .inl hk.1
      · exact wish_leaves ST.out HH.out.size FIN.out
  exact AllReadyT.nil
end Go.Proofs.YtmdemcjmcnfjmaaGreatDoor

/- What Conflicts of package owner answers. -/
set_option linter.unusedSimpArgs false
set_option linter.unusedVariables false
namespace Go.Proofs.YtmdemcjmcnfjmaaGreatDoor
open Go.RowKit

theorem leaves_rise (want : V) : Rises (leavesF want) ∧ (leavesF want).length < 4611686018427387904 := by
  by_cases h : want.kind = 5 ∧ goodV want = true
  · exact ⟨(leaves_ok h.1 h.2).rises, wish_len h.1 h.2⟩
  · have e : leavesF want = [] := if_neg h
    rw [e]; exact ⟨List.Pairwise.nil, by simp⟩
noncomputable def confF (t : V) (l : List Own) (who : List UInt8) (want : V) : List (List UInt8 × List UInt8) := if goodV t = true ∧ goodOs l = true then foundF (blockedF want t (leavesF want)) who l else []
theorem con_sees {w0 : World} {ok okw okv : Nat → Prop} {who : List UInt8} {want t : V} {L : List (List UInt8)} {g2 g9 g4 : Nat} {a1 a2 a3 b1 b2 : Option Addr} {c1 c2 c3 d1 d2 : Nat} {l : List Own} {vl : Value} (hc : CapI w0 okw okv who want t L g2 g9 g4 a1 a2 a3 b1 b2 c1 c2 c3 d1 d2)
    (hl : OwnsAre w0 ok l vl) (hok : ∀ k, ok k → k < w0.heap.size) (hN : (allOf l).length ≤ 4000000) (hP : ∀ o ∈ l, ∀ x ∈ o.paths, x.length ≤ 140737488351232) :
    SeesP w0 49 #[.pointer (some ⟨g2, 0, none⟩), .pointer (some ⟨g9, 0, none⟩), .pointer (some ⟨g4, 0, none⟩), .pointer (some ⟨w0.heap.size, 0, none⟩)] l ok vl (ConI w0 who (blockedF want t L) 0) where
  owns := hl
  cells d F W hI a x h1 h2 := (World.cell?_of_block (hI.1.1.block _ (hok _ h1))).trans h2
  alloc d F W o hI := ⟨hI.1.alloc o, fun k hk => by
    have : W.heap.size < (W.alloc o).heap.size := by simp
    rcases hk with hk | rfl
    · have := hI.2 k hk; omega
    · exact this⟩
  low d F G W hI hg := ⟨hI.1.low hg, fun k hk => hI.2 k (hg k hk)⟩
  step d F W n p hI hpre := by
    have hm : (n, p) ∈ allOf l := hpre.subset (by simp)
    obtain ⟨o, ho, rfl, hp⟩ := allOf_mem hm
    have hlen := hpre.length_le
    rw [List.length_append] at hlen
    exact conf1_at w0 W okw okv who want t L g2 g9 g4 a1 a2 a3 b1 b2 c1 c2 c3 d1 d2 0 d F o.name p hc hI (by omega) (hP o ho p hp)

set_option maxRecDepth 100000 in
set_option maxHeartbeats 4000000 in
theorem conflicts_at (w : World) (ok okl okw : Nat → Prop) (t want : V) (l : List Own) (who : List UInt8) (vt vl vw : Value) (ht : In w ok t vt) (hl : OwnsAre w okl l vl) (hw : In w okw want vw) (hM : GlobM w) (hN : (allOf l).length ≤ 4000000) (hP : ∀ o ∈ l, ∀ x ∈ o.paths, x.length ≤ 140737488351232) :
    Calls Tryz.prog 21 #[vt, vl, .string ⟨who.toArray⟩, vw] w fun e w' => ∃ r, e = .returned r ∧ w'.ownsRow w.heap.size 85 2 r (confF t l who want).length (cCells (confF t l who want)) ∧ Below w.heap.size w w' := by
  have HT := hidI ht.low
  have HL := hidI hl.low
  have HW := hidI hw.low
  have HM := hidI hM
  have HN := hidI hN
  have HP := hidI hP
  obtain ⟨b1, b2, d1, d2, rfl⟩ := ht.form
  obtain ⟨a1, a2, c1, c2, rfl⟩ := hw.form
  obtain ⟨la, lc, rfl⟩ := hl.form
  have ll := hl.1
  unfold maxLen at ll
  clear ht hl hw hM hN hP
  obtain ⟨W3, hW3⟩ : ∃ W, W = ((w.alloc (.cells #[.int .i64 t.kind, .int .i64 t.n, .string ⟨t.s.toArray⟩, .slice b1 t.keys.length d1, .slice b2 t.l.length d2] 25)).alloc (.cells #[.string ⟨who.toArray⟩] 9)).alloc (.cells #[.int .i64 want.kind, .int .i64 want.n, .string ⟨want.s.toArray⟩, .slice a1 want.keys.length c1, .slice a2 want.l.length c2] 25) := ⟨_, rfl⟩
  have BW : Hid (Below w.heap.size w W3) := hidI (by rw [hW3]; exact bel_trans (bel_trans (bel_alloc _ _) (bel_alloc _ _)) (bel_alloc _ _))
  have X1 : Hid (BoxIs W3 w.heap.size (.int .i64 t.kind) (.int .i64 t.n) (.string ⟨t.s.toArray⟩) (.slice b1 t.keys.length d1) (.slice b2 t.l.length d2)) := hidI (by rw [hW3]; exact h3a _ _ _ _)
  have X2 : Hid (W3.heap[w.heap.size + 1]? = some (.cells #[.string ⟨who.toArray⟩] 9)) := hidI (by rw [hW3]; exact h3b _ _ _ _)
  have X3 : Hid (BoxIs W3 (w.heap.size + 2) (.int .i64 want.kind) (.int .i64 want.n) (.string ⟨want.s.toArray⟩) (.slice a1 want.keys.length c1) (.slice a2 want.l.length c2)) := hidI (by rw [hW3]; exact h3c _ _ _ _)
  have HW3 := hidI hW3
  clear hW3
  have GT : Hid (∀ W, Below w.heap.size w W → Calls Tryz.prog 13 #[.agg #[.int .i64 t.kind, .int .i64 t.n, .string ⟨t.s.toArray⟩, .slice b1 t.keys.length d1, .slice b2 t.l.length d2]] W fun e w' => e = .returned (.bool (goodV t)) ∧ Below W.heap.size W w') := hidI (fun W hW => good_is W _ t _ (HT.out.bel hW))
  have GO : Hid (∀ W, Below w.heap.size w W → Calls Tryz.prog 12 #[.slice la l.length lc] W fun e w' => e = .returned (.bool (goodOs l)) ∧ Below W.heap.size W w') := hidI (fun W hW => goodOwners_at W _ l _ (HL.out.bel hW) HP.out (HM.out.bel hW))
  obtain ⟨p0, p1, p2, p3, p4, -⟩ := X1.out.c
  cases hgt : goodV t with
  | false =>
    have R : Hid (confF t l who want = []) := hidI (if_neg (by rw [hgt]; simp))
    rw [hgt] at GT
    clear hgt
    go_enter Tryz.func21, Tryz.ntmps21
    go_upto_region 1 with fail
    rw [← HW3.out]
    go_wp2_with (go_at_call 13; refine (GT.out _ BW.out).mono ?_; rintro e w1 ⟨rfl, hb⟩; have B1 := hidI (bel_trans BW.out hb); clear hb)
    go_ret
    exact ⟨_, rfl, by rw [R.out]; exact World.ownsRow_nil _ _ _ _, B1.out⟩
  | true =>
    rw [hgt] at GT
    have HGT := hidI hgt
    clear hgt
    cases hgo : goodOs l with
    | false =>
      have R : Hid (confF t l who want = []) := hidI (if_neg (by rw [hgo]; simp))
      rw [hgo] at GO
      clear hgo
      go_enter Tryz.func21, Tryz.ntmps21
      go_upto_region 1 with fail
      rw [← HW3.out]
      go_wp2_with (first
        | (go_at_call 13; refine (GT.out _ BW.out).mono ?_; rintro e w1 ⟨rfl, hb⟩; have B1 := hidI (bel_trans BW.out hb); clear hb)
        | (go_at_call 12; refine (GO.out _ B1.out).mono ?_; rintro e w2 ⟨rfl, hb⟩; have B2 := hidI (bel_trans B1.out hb); clear hb))
      go_ret
      exact ⟨_, rfl, by rw [R.out]; exact World.ownsRow_nil _ _ _ _, B2.out⟩
    | true =>
      have R : Hid (confF t l who want = pick who (blockedF want t (leavesF want)) (allOf l)) := hidI (by rw [confF, if_pos ⟨HGT.out, hgo⟩, found_pick])
      rw [hgo] at GO
      clear hgo
      go_enter Tryz.func21, Tryz.ntmps21
      go_upto_region 1 with fail
      rw [← HW3.out]
      go_upto_region 3 with (first
        | (go_at_call 13; refine (GT.out _ BW.out).mono ?_; rintro e w1 ⟨rfl, hb⟩; have B1 := hidI (bel_trans BW.out hb); have Y1 := hidI hb; clear hb)
        | (go_at_call 12; refine (GO.out _ B1.out).mono ?_; rintro e w2 ⟨rfl, hb⟩; have B2 := hidI (bel_trans B1.out hb); have Y2 := hidI (bel_trans Y1.out hb); clear hb))
      clear p0 p1 p2 p3 p4
      obtain ⟨p0, p1, p2, p3, p4, -⟩ := (box_bel Y2.out X3.out).c
      have WO := hidI (wishOf_at w2 (fun k => okw k ∧ k < w.heap.size) want _ (by exact HW.out.bel B2.out) (HM.out.bel B2.out))
      go_upto_region 4 with (go_at_call 22; refine WO.out.mono ?_; rintro e w3 ⟨r, rfl, hwi, hb⟩; have B3 := hidI (bel_trans B2.out hb); have Y3 := hidI (bel_trans Y2.out hb); have WI := hidI hwi; clear hb; obtain ⟨x1, x2, x3, y1, y2, y3, rfl, -, -⟩ := hwi)
      clear p0 p1 p2 p3 p4
      obtain ⟨W6, hW6⟩ : ∃ W, W = w3.alloc (.cells #[.int .i64 want.kind, .int .i64 want.n, .string ⟨want.s.toArray⟩, .slice x1 want.keys.length y1, .slice x2 want.l.length y2, .slice x3 (leavesF want).length y3] 53) := ⟨_, rfl⟩
      have Y6 : Hid (Below w3.heap.size w3 W6) := hidI (by rw [hW6]; exact bel_alloc _ _)
      have X6 : Hid (W6.heap[w3.heap.size]? = some (.cells #[.int .i64 want.kind, .int .i64 want.n, .string ⟨want.s.toArray⟩, .slice x1 want.keys.length y1, .slice x2 want.l.length y2, .slice x3 (leavesF want).length y3] 53)) := hidI (by rw [hW6]; exact heap_alloc_new _ _)
      have B6 := hidI (bel_trans B3.out Y6.out)
      rw [← hW6]
      clear hW6
      have CAP : Hid (CapI W6 (okN (fun k => okw k ∧ k < w.heap.size) w2.heap.size) (fun k => ok k ∧ k < w.heap.size) who want t (leavesF want) (w.heap.size + 1) w3.heap.size w.heap.size x1 x2 x3 b1 b2 y1 y2 y3 d1 d2) := hidI ⟨by
        have h9 := blk_bel (bel_trans Y3.out Y6.out) X2.out
        simp [World.cell?, h9], X6.out, box_bel (bel_trans Y3.out Y6.out) X1.out, WI.out.bel Y6.out, HT.out.bel B6.out, HM.out.bel B6.out, by have := nice_cnt (nice_of HGT.out); omega, (leaves_rise want).1, (leaves_rise want).2⟩
      have SEES := hidI (con_sees CAP.out (HL.out.bel B6.out) (fun k hk => by have := B6.out.size; have h9 := hk.2; omega) HN.out HP.out)
      have CALL := hidI (eachPath_at W6 (W6.alloc (.cells #[.slice none 0 0] 27)) _ l _ _ _ _ (fun k => k < W6.heap.size) conf1_enters SEES.out ⟨by simpa [pick, cCells] using acc_start W6 27 85 2, fun k hk => by simp; omega⟩)
      go_upto_region 6 with (go_at_call 48; refine CALL.out.mono ?_; rintro e w7 ⟨rfl, hi7⟩; have I7 := hidI hi7; clear hi7)
      obtain ⟨r1, fv, r2, r3, r4⟩ := I7.out.1
      have c0 : w7.cell? ⟨W6.heap.size, 0, none⟩ = some fv := by simp [World.cell?, r2]
      obtain ⟨sa, sn, sc, hsv⟩ : ∃ sa sn sc, fv = .slice sa sn sc := by
        rcases r3.2 with ⟨h9, -⟩ | ⟨_, _, _, h9, -⟩
        · exact ⟨_, _, _, h9⟩
        · exact ⟨_, _, _, h9⟩
      subst hsv
      have ROW := hidI r3
      have BE := hidI (B6.out.trans (r1.mono B6.out.size))
      have SZ6 := hidI B6.out.size
      clear r1 r2 r3 r4
      go_wp2_with fail
      go_ret
      exact ⟨_, rfl, by rw [R.out]; exact own_base ROW.out (by have := SZ6.out; omega), BE.out⟩
end Go.Proofs.YtmdemcjmcnfjmaaGreatDoor

/- Owners, one path after the other, plainly; owners that are being made, in memory. -/
set_option linter.unusedSimpArgs false
set_option linter.unusedVariables false
namespace Go.Proofs.YtmdemcjmcnfjmaaGreatDoor
open Go.RowKit

def addP (os : List Own) (n p : List UInt8) : List Own :=
  match os.getLast? with
  | some o => if o.name = n then os.dropLast ++ [⟨n, o.paths ++ [p]⟩] else os ++ [⟨n, [p]⟩]
  | none => [⟨n, [p]⟩]
theorem addP_nil (n p : List UInt8) : addP [] n p = [⟨n, [p]⟩] := rfl
theorem addP_same (os : List Own) (o : Own) (p : List UInt8) : addP (os ++ [o]) o.name p = os ++ [⟨o.name, o.paths ++ [p]⟩] := by
  unfold addP; simp
theorem addP_new (os : List Own) (o : Own) (n p : List UInt8) (h : o.name ≠ n) : addP (os ++ [o]) n p = (os ++ [o]) ++ [⟨n, [p]⟩] := by
  unfold addP; simp [h]
theorem addP_far {os : List Own} {n p : List UInt8} (h : ∀ x ∈ os, x.name ≠ n) : addP os n p = os ++ [⟨n, [p]⟩] := by
  rcases List.eq_nil_or_concat os with rfl | ⟨r, o, rfl⟩
  · rfl
  · rw [List.concat_eq_append] at h ⊢; exact addP_new _ _ _ _ (h o (by simp))
def grpS (stays : List UInt8 → List UInt8 → Bool) (os : List Own) (c : List UInt8 × List UInt8) : List Own := if stays c.1 c.2 = true then addP os c.1 c.2 else os
def grp (stays : List UInt8 → List UInt8 → Bool) (d : List (List UInt8 × List UInt8)) : List Own := d.foldl (grpS stays) []
theorem grp_snoc (stays : List UInt8 → List UInt8 → Bool) (d : List (List UInt8 × List UInt8)) (n p : List UInt8) : grp stays (d ++ [(n, p)]) = if stays n p = true then addP (grp stays d) n p else grp stays d := by
  unfold grp; rw [List.foldl_append]; rfl
theorem fold_own {stays : List UInt8 → List UInt8 → Bool} {os : List Own} {n : List UInt8} (h : ∀ x ∈ os, x.name ≠ n) : ∀ (ps : List (List UInt8)), (ps.map fun p => (n, p)).foldl (grpS stays) os = os ++ (if ps.filter (stays n) = [] then [] else [⟨n, ps.filter (stays n)⟩]) := by
  have key : ∀ (k : Nat) (ps : List (List UInt8)), ps.length = k → (ps.map fun p => (n, p)).foldl (grpS stays) os = os ++ (if ps.filter (stays n) = [] then [] else [⟨n, ps.filter (stays n)⟩]) := by
    intro k
    induction k with
    | zero => intro ps hp; rw [List.length_eq_zero_iff.1 hp]; simp
    | succ k ih =>
      intro ps hp
      rcases List.eq_nil_or_concat ps with rfl | ⟨r, p, rfl⟩
      · simp at hp
      · rw [List.concat_eq_append] at hp ⊢
        rw [List.map_append, List.foldl_append, ih r (by simpa using hp)]
        simp only [List.map_cons, List.map_nil, List.foldl_cons, List.foldl_nil, grpS, List.filter_append]
        cases hs : stays n p with
        | false => simp [hs]
        | true =>
          simp only [if_true, hs, List.filter_cons_of_pos, List.filter_nil]
          by_cases hf : r.filter (stays n) = []
          · rw [if_pos hf, List.append_nil, addP_far h, hf]; simp
          · rw [if_neg hf]
            have := addP_same os ⟨n, r.filter (stays n)⟩ p
            simp only at this
            rw [this]; simp
  exact fun ps => key _ ps rfl
theorem grp_kept {stays : List UInt8 → List UInt8 → Bool} {l : List Own} (h : Rises (l.map Own.name)) : grp stays (allOf l) = keptF stays l := by
  have key : ∀ k, k ≤ l.length → grp stays (allOf (l.take k)) = keptF stays (l.take k) := by
    intro k
    induction k with
    | zero => intro _; simp [allOf, grp, keptF]
    | succ k ih =>
      intro hk
      have hlt : k < l.length := by omega
      have hne : ∀ x ∈ keptF stays (l.take k), x.name ≠ l[k].name := by
        intro x hx
        obtain ⟨y, hy, rfl, -⟩ := kept_in hx
        obtain ⟨i, hi, rfl⟩ := List.getElem_of_mem hy
        rw [List.length_take] at hi
        rw [List.getElem_take]
        have := List.pairwise_iff_getElem.1 h i k (by simp; omega) (by simpa using hlt) (by omega)
        rw [List.getElem_map, List.getElem_map] at this
        intro e
        rw [e, less_irrefl] at this; cases this
      rw [allOf_step hlt]
      unfold grp at ih ⊢
      rw [List.foldl_append, ih (by omega), fold_own hne, List.take_succ_eq_append_getElem hlt, kept_append]
      congr 1
      unfold keptF
      simp only [List.map_cons, List.map_nil]
      split
      · rename_i hf; rw [hf]; rfl
      · rename_i hf
        rw [List.filter_cons_of_pos (by simpa using hf)]; rfl
  have := key l.length (Nat.le_refl _)
  rwa [List.take_length] at this

/- Owners in their making: the last one's paths may grow, those of the others lie in Z. -/
def oCells : List Own → List Value → List Value
  | o :: os, v :: vs => .string ⟨o.name.toArray⟩ :: v :: oCells os vs
  | _, _ => []
theorem oCells_snoc : ∀ (os : List Own) (vs : List Value) (o : Own) (v : Value), os.length = vs.length → oCells (os ++ [o]) (vs ++ [v]) = oCells os vs ++ [.string ⟨o.name.toArray⟩, v]
  | [], [], o, v, _ => rfl
  | [], _ :: _, o, v, h => by simp at h
  | _ :: _, [], o, v, h => by simp at h
  | o' :: os, v' :: vs, o, v, h => by
    simp only [List.cons_append, oCells, oCells_snoc os vs o v (by simpa using h)]
theorem oCells_len : ∀ (os : List Own) (vs : List Value), os.length = vs.length → (oCells os vs).length = os.length * 2
  | [], [], _ => rfl
  | [], _ :: _, h => by simp at h
  | _ :: _, [], h => by simp at h
  | o' :: os, v' :: vs, h => by
    simp only [oCells, List.length_cons, oCells_len os vs (by simpa using h)]; omega
def LastOk (w0 W : World) (init : List Own) (ov pl : Value) (pin : List Value) : Option Own → Prop
  | none => init = [] ∧ pl = .slice none 0 0 ∧ W.ownsRow (w0.heap.size + 1) 41 2 ov 0 []
  | some o => W.ownsRow (w0.heap.size + 1) 41 2 ov (init.length + 1) (oCells (init ++ [o]) (pin ++ [pl])) ∧ W.ownsRow (w0.heap.size + 1) 9 1 pl o.paths.length (o.paths.map encS) ∧ ∀ x ∈ o.paths, x.length ≤ maxLen
structure KptI (w0 : World) (init : List Own) (lastO : Option Own) (F : Nat → Prop) (W : World) (ov pl : Value) (pin : List Value) (Z : Nat → Prop) : Prop where
  low : Below w0.heap.size w0 W
  box : W.heap[w0.heap.size]? = some (.cells #[ov] 26)
  plen : init.length = pin.length
  ini : ∀ (i : Nat) (o : Own) (v : Value), init[i]? = some o → pin[i]? = some v → (∃ a c, v = .slice a o.paths.length c) ∧ StrsAre W Z o.paths v
  last : LastOk w0 W init ov pl pin lastO
  off : ∀ (g : Nat), ov.ownBlock = some g → pl.ownBlock ≠ some g
  zlow : ∀ (k : Nat), Z k → w0.heap.size + 1 ≤ k
  keep : ∀ (k : Nat), (F k ∨ Z k) → k < W.heap.size ∧ k ≠ w0.heap.size ∧ some k ≠ ov.ownBlock ∧ some k ≠ pl.ownBlock
def KpI (w0 : World) (os : List Own) (F : Nat → Prop) (W : World) : Prop := ∃ init lastO ov pl pin Z, os = init ++ lastO.toList ∧ KptI w0 init lastO F W ov pl pin Z
theorem KptI.rows {w0 : World} {init : List Own} {lastO : Option Own} {F : Nat → Prop} {W : World} {ov pl : Value} {pin : List Value} {Z : Nat → Prop} (h : KptI w0 init lastO F W ov pl pin Z) : (∀ g, ov.ownBlock = some g → w0.heap.size + 1 ≤ g ∧ g < W.heap.size) ∧ (∀ g, pl.ownBlock = some g → w0.heap.size + 1 ≤ g ∧ g < W.heap.size) := by
  have hl := h.last
  cases lastO with
  | none =>
    obtain ⟨-, rfl, h2⟩ := hl
    exact ⟨fun g hg => own_lt h2 hg, fun g hg => by cases hg⟩
  | some o => exact ⟨fun g hg => own_lt hl.1 hg, fun g hg => own_lt hl.2.1 hg⟩
theorem KptI.bel {w0 : World} {init : List Own} {lastO : Option Own} {F : Nat → Prop} {W W' : World} {ov pl : Value} {pin : List Value} {Z : Nat → Prop} (h : KptI w0 init lastO F W ov pl pin Z) (hb : Below W.heap.size W W') : KptI w0 init lastO F W' ov pl pin Z where
  low := h.low.trans (hb.mono h.low.size)
  box := blk_bel hb h.box
  plen := h.plen
  ini i o v h1 h2 := ⟨(h.ini i o v h1 h2).1, (h.ini i o v h1 h2).2.imp fun a x g1 g2 => ⟨g1, cell_bel hb g2⟩⟩
  last := by
    have hl := h.last
    have hr := h.rows
    cases lastO with
    | none => exact ⟨hl.1, hl.2.1, own_same hl.2.2 fun g hg => hb.block g (hr.1 g hg).2⟩
    | some o => exact ⟨own_same hl.1 fun g hg => hb.block g (hr.1 g hg).2, own_same hl.2.1 fun g hg => hb.block g (hr.2 g hg).2, hl.2.2⟩
  off := h.off
  zlow := h.zlow
  keep k hk := ⟨Nat.lt_of_lt_of_le (h.keep k hk).1 hb.size, (h.keep k hk).2⟩
theorem KptI.alloc {w0 : World} {init : List Own} {lastO : Option Own} {F : Nat → Prop} {W : World} {ov pl : Value} {pin : List Value} {Z : Nat → Prop} (h : KptI w0 init lastO F W ov pl pin Z) (o : Obj) : KptI w0 init lastO (fun k => F k ∨ k = W.heap.size) (W.alloc o) ov pl pin Z := by
  have h2 := h.bel (bel_alloc W o)
  have hr := h.rows
  refine { h2 with keep := fun k hk => ?_ }
  rcases hk with (hk | rfl) | hk
  · exact h2.keep k (.inl hk)
  · have hbx := (Array.getElem?_eq_some_iff.1 h.box).1
    exact ⟨by simp, by omega, fun e => by have := (hr.1 _ e.symm).2; omega, fun e => by have := (hr.2 _ e.symm).2; omega⟩
  · exact h2.keep k (.inr hk)
theorem KptI.lower {w0 : World} {init : List Own} {lastO : Option Own} {F G : Nat → Prop} {W : World} {ov pl : Value} {pin : List Value} {Z : Nat → Prop} (h : KptI w0 init lastO F W ov pl pin Z) (hg : ∀ k, G k → F k) : KptI w0 init lastO G W ov pl pin Z :=
  { h with keep := fun k hk => h.keep k (hk.imp (hg k) id) }
theorem kpt_start (w0 : World) : KptI w0 [] none (fun k => k < w0.heap.size) (w0.alloc (.cells #[.slice none 0 0] 26)) (.slice none 0 0) (.slice none 0 0) [] (fun _ => False) where
  low := bel_alloc _ _
  box := heap_alloc_new _ _
  plen := rfl
  ini i o v h := by simp at h
  last := ⟨rfl, rfl, World.ownsRow_nil _ _ _ _⟩
  off g hg := by cases hg
  zlow k hk := hk.elim
  keep k hk := by
    rcases hk with hk | hk
    · exact ⟨by simp; omega, by omega, by simp [Value.ownBlock], by simp [Value.ownBlock]⟩
    · exact hk.elim
end Go.Proofs.YtmdemcjmcnfjmaaGreatDoor

/- Owners in their making: one more, one more path. -/
set_option linter.unusedSimpArgs false
set_option linter.unusedVariables false
namespace Go.Proofs.YtmdemcjmcnfjmaaGreatDoor
open Go.RowKit

theorem own_cellset {w : World} {B : Nat} {e : TypeId} {size n cap g : Nat} {xs : List Value} (h : w.ownsRow B e size (.slice (some ⟨g, 0, none⟩) n cap) n xs) (hn : 0 < n) (i : Nat) (v : Value) : (w.setCell ⟨g, i, none⟩ v).ownsRow B e size (.slice (some ⟨g, 0, none⟩) n cap) n (xs.set i v) := by
  refine ⟨by simpa using h.1, ?_⟩
  rcases h.2 with ⟨h0, -⟩ | ⟨g', cap', cur, e1, h1, h2, h3, h4, h5, h6⟩
  · cases h0
  · cases e1
    refine .inr ⟨g, cap, cur.setIfInBounds i v, rfl, h1, heap_set h2 i v, h3, h4, by simpa using h5, ?_⟩
    rw [Array.toList_setIfInBounds, List.take_set, h6]
theorem oCells_last {init : List Own} {pin : List Value} {o o' : Own} {pl pl' : Value} (h : init.length = pin.length) (hn : o'.name = o.name) : (oCells (init ++ [o]) (pin ++ [pl])).set (init.length * 2 + 1) pl' = oCells (init ++ [o']) (pin ++ [pl']) := by
  rw [oCells_snoc _ _ _ _ h, oCells_snoc _ _ _ _ h, hn, List.set_append_right _ _ (by rw [oCells_len _ _ h]; omega), oCells_len _ _ h]
  rw [show init.length * 2 + 1 - init.length * 2 = 1 by omega]
  rfl
theorem encS_strs {w : World} {B : Nat} {ps : List (List UInt8)} {v : Value} {ok : Nat → Prop} (h : w.ownsRow B 9 1 v ps.length (ps.map encS)) (hl : ∀ x ∈ ps, x.length ≤ maxLen) (hok : ∀ g, v.ownBlock = some g → ok g) : (∃ a c, v = .slice a ps.length c) ∧ StrsAre w ok ps v := by
  rcases h.2 with ⟨rfl, h0⟩ | ⟨g, cap, cur, rfl, h1, h2, h3, h4, h5, h6⟩
  · have hL : ps = [] := List.length_eq_zero_iff.1 h0
    subst hL
    exact ⟨⟨none, 0, rfl⟩, by simp [maxLen], .inl ⟨rfl, none, rfl⟩⟩
  · refine ⟨⟨_, _, rfl⟩, by omega, .inr ⟨g, 0, cap, rfl, h3, h4, fun i x hx => ⟨hl x (List.mem_of_getElem? hx), hok g rfl, ?_⟩⟩⟩
    obtain ⟨hi, rfl⟩ := List.getElem?_eq_some_iff.1 hx
    have e := congrArg (fun l => l[i]?) h6
    simp only [Nat.mul_one, List.getElem?_take, List.getElem?_map, List.getElem?_eq_getElem hi, Option.map_some] at e
    rw [if_pos hi] at e
    have e2 : cur[i]? = some (encS ps[i]) := by simpa using e
    simp [World.cell?, h2, e2, encS, str]
/- One more owner. -/
theorem kpt_new {w0 : World} {init : List Own} {lastO : Option Own} {F : Nat → Prop} {wc W' : World} {ov pl : Value} {pin : List Value} {Z : Nat → Prop} {ob : Obj} {n : List UInt8} {N g cap : Nat} {cells : List Value} (h : KptI w0 init lastO F wc ov pl pin Z)
    (hN : N = (init ++ lastO.toList).length) (hcs : cells = oCells (init ++ lastO.toList) (pin ++ (lastO.toList.map fun _ => pl)))
    (ho : W'.ownsRow (w0.heap.size + 1) 41 2 (.slice (some ⟨g, 0, none⟩) (N + 1) cap) (N + 1) (cells ++ [.string ⟨n.toArray⟩, .slice none 0 0])) (hg : (wc.alloc ob).grownBy W' ov.ownBlock) (hf : ov.ownBlock = some g ∨ (wc.alloc ob).heap.size = g) :
    KptI w0 (init ++ lastO.toList) (some ⟨n, []⟩) F (W'.setCell ⟨w0.heap.size, 0, none⟩ (.slice (some ⟨g, 0, none⟩) (N + 1) cap)) (.slice (some ⟨g, 0, none⟩) (N + 1) cap) (.slice none 0 0) (pin ++ (lastO.toList.map fun _ => pl)) (fun k => Z k ∨ pl.ownBlock = some k) ∧
      wc.heap.size ≤ (W'.setCell ⟨w0.heap.size, 0, none⟩ (.slice (some ⟨g, 0, none⟩) (N + 1) cap)).heap.size ∧ ∀ k, F k → k < wc.heap.size → (W'.setCell ⟨w0.heap.size, 0, none⟩ (.slice (some ⟨g, 0, none⟩) (N + 1) cap)).heap[k]? = wc.heap[k]? := by
  have ha := bel_alloc wc ob
  have hr := h.rows
  have hgo := (own_lt ho (g := g) rfl).1
  have hgl : w0.heap.size < wc.heap.size := (Array.getElem?_eq_some_iff.1 h.box).1
  have hW : ∀ k, k < wc.heap.size → some k ≠ ov.ownBlock → W'.heap[k]? = wc.heap[k]? := fun k hk hn => by
    rw [hg.block k (Nat.lt_of_lt_of_le hk ha.size) hn, ha.block k hk]
  have hbox : W'.heap[w0.heap.size]? = some (.cells #[ov] 26) := by
    rw [hW _ hgl (fun e => by have := (hr.1 _ e.symm).1; omega), h.box]
  obtain ⟨W2, hW2⟩ : ∃ W, W = W'.setCell ⟨w0.heap.size, 0, none⟩ (.slice (some ⟨g, 0, none⟩) (N + 1) cap) := ⟨_, rfl⟩
  have hset : ∀ k, k ≠ w0.heap.size → W2.heap[k]? = W'.heap[k]? := fun k hk => by rw [hW2]; exact Below.heap_setCell W' ⟨w0.heap.size, 0, none⟩ _ k hk
  have hsz : wc.heap.size ≤ W2.heap.size := by
    have h1 := ha.size
    have h2 := hg.size
    rw [hW2]
    simp only [World.setCell, Array.size_modify]
    omega
  have hos : W2.os = W'.os ∧ W2.tape = W'.tape ∧ W2.output = W'.output := by rw [hW2]; exact ⟨rfl, rfl, rfl⟩
  have hfix : ∀ k, k < wc.heap.size → k ≠ w0.heap.size → some k ≠ ov.ownBlock → W2.heap[k]? = wc.heap[k]? := fun k h1 h2 h3 => by rw [hset k h2, hW k h1 h3]
  have hlo : Below w0.heap.size w0 W2 := ⟨by rw [hos.1, hg.os, ha.os, h.low.os], by rw [hos.2.1, hg.tape, ha.tape, h.low.tape], by rw [hos.2.2, hg.output, ha.output, h.low.output], Nat.le_trans h.low.size hsz, fun k hk => by rw [hfix k (by omega) (by omega) (fun e => by have := (hr.1 _ e.symm).1; omega), h.low.block k hk]⟩
  have hb2 : W2.heap[w0.heap.size]? = some (.cells #[.slice (some ⟨g, 0, none⟩) (N + 1) cap] 26) := by rw [hW2]; exact heap_set hbox 0 _
  rw [← hW2]
  have hpn : (init ++ lastO.toList).length = (pin ++ (lastO.toList.map fun _ => pl)).length := by simp [h.plen]
  have hgf : ∀ k, k < wc.heap.size → some k ≠ ov.ownBlock → k ≠ g := fun k hk hne e => by
    rcases hf with hf | hf
    · exact hne (by rw [hf, e])
    · have := ha.size; omega
  refine ⟨{ low := hlo, box := hb2, plen := hpn, ini := fun i o v h1 h2 => ?_, last := ?_, off := fun g' hg' => by simp [Value.ownBlock], zlow := fun k hk => hk.elim (h.zlow k) (fun e => (hr.2 k e).1), keep := fun k hk => ?_ }, hsz, fun k hk hlt => ?_⟩
  · by_cases hi : i < init.length
    · rw [List.getElem?_append_left hi] at h1
      rw [List.getElem?_append_left (by rw [← h.plen]; exact hi)] at h2
      obtain ⟨g1, g2⟩ := h.ini i o v h1 h2
      refine ⟨g1, g2.imp fun a x q1 q2 => ⟨.inl q1, ?_⟩⟩
      have hk := h.keep a.block (.inr q1)
      exact (World.cell?_of_block (hfix _ hk.1 hk.2.1 hk.2.2.1)).trans q2
    · rw [List.getElem?_append_right (by omega)] at h1
      rw [List.getElem?_append_right (by rw [← h.plen]; omega)] at h2
      have hl := h.last
      cases lastO with
      | none => simp at h1
      | some o9 =>
        rw [← h.plen] at h2
        cases h8 : i - init.length with
        | succ m => rw [h8] at h1; simp at h1
        | zero =>
          rw [h8] at h1 h2
          simp at h1 h2
          subst h1; subst h2
          refine encS_strs (own_same hl.2.1 fun g' hg' => ?_) hl.2.2 fun g' hg' => .inr hg'
          exact hfix _ (hr.2 _ hg').2 (fun e => by have := (hr.2 _ hg').1; omega) (fun e => h.off g' e.symm hg')
  · refine ⟨?_, ⟨rfl, .inl ⟨rfl, rfl⟩⟩, fun x hx => by cases hx⟩
    rw [oCells_snoc _ _ _ _ hpn, ← hcs, ← hN]
    refine own_same ho fun g' hg' => hset g' ?_
    have e9 : g = g' := by simpa [Value.ownBlock] using hg'
    omega
  · rcases hk with hk | hk | hk
    · have h9 := h.keep k (.inl hk)
      exact ⟨Nat.lt_of_lt_of_le h9.1 hsz, h9.2.1, by have := hgf k h9.1 h9.2.2.1; simp [Value.ownBlock]; omega, by simp [Value.ownBlock]⟩
    · have h9 := h.keep k (.inr hk)
      exact ⟨Nat.lt_of_lt_of_le h9.1 hsz, h9.2.1, by have := hgf k h9.1 h9.2.2.1; simp [Value.ownBlock]; omega, by simp [Value.ownBlock]⟩
    · have h9 := hr.2 k hk
      have h8 : some k ≠ ov.ownBlock := fun e => h.off k e.symm hk
      exact ⟨Nat.lt_of_lt_of_le h9.2 hsz, by omega, by have := hgf k h9.2 h8; simp [Value.ownBlock]; omega, by simp [Value.ownBlock]⟩
  · have h9 := h.keep k (.inl hk)
    exact hfix k h9.1 h9.2.1 h9.2.2.1
/- One more path of the last one. -/
theorem kpt_path {w0 : World} {init : List Own} {o : Own} {F : Nat → Prop} {wc W' : World} {gb ocap : Nat} {pl : Value} {pin : List Value} {Z : Nat → Prop} {ob : Obj} {p : List UInt8} {g cap : Nat} (h : KptI w0 init (some o) F wc (.slice (some ⟨gb, 0, none⟩) (init.length + 1) ocap) pl pin Z) (hp : p.length ≤ maxLen)
    (ho : W'.ownsRow (w0.heap.size + 1) 9 1 (.slice (some ⟨g, 0, none⟩) (o.paths.length + 1) cap) (o.paths.length + 1) (o.paths.map encS ++ [.string ⟨p.toArray⟩])) (hg : (wc.alloc ob).grownBy W' pl.ownBlock) (hf : pl.ownBlock = some g ∨ (wc.alloc ob).heap.size = g) :
    KptI w0 init (some ⟨o.name, o.paths ++ [p]⟩) F (W'.setCell ⟨gb, init.length * 2 + 1, none⟩ (.slice (some ⟨g, 0, none⟩) (o.paths.length + 1) cap)) (.slice (some ⟨gb, 0, none⟩) (init.length + 1) ocap) (.slice (some ⟨g, 0, none⟩) (o.paths.length + 1) cap) pin Z ∧
      wc.heap.size ≤ (W'.setCell ⟨gb, init.length * 2 + 1, none⟩ (.slice (some ⟨g, 0, none⟩) (o.paths.length + 1) cap)).heap.size ∧ ∀ k, F k → k < wc.heap.size → (W'.setCell ⟨gb, init.length * 2 + 1, none⟩ (.slice (some ⟨g, 0, none⟩) (o.paths.length + 1) cap)).heap[k]? = wc.heap[k]? := by
  have ha := bel_alloc wc ob
  have hr := h.rows
  have hgb := hr.1 gb rfl
  have hgo := own_lt ho (g := g) rfl
  obtain ⟨l1, l2, l3⟩ := h.last
  have hgl : w0.heap.size < wc.heap.size := (Array.getElem?_eq_some_iff.1 h.box).1
  have hW : ∀ k, k < wc.heap.size → some k ≠ pl.ownBlock → W'.heap[k]? = wc.heap[k]? := fun k hk hn => by
    rw [hg.block k (Nat.lt_of_lt_of_le hk ha.size) hn, ha.block k hk]
  have hgne : g ≠ gb := fun e => by
    rcases hf with hf | hf
    · exact h.off gb rfl (by rw [hf, e])
    · have := ha.size; omega
  have l1' : W'.ownsRow (w0.heap.size + 1) 41 2 (.slice (some ⟨gb, 0, none⟩) (init.length + 1) ocap) (init.length + 1) (oCells (init ++ [o]) (pin ++ [pl])) := own_same l1 fun g' hg' => by
    have e9 : gb = g' := by simpa [Value.ownBlock] using hg'
    subst e9
    exact hW gb hgb.2 (fun e => h.off gb rfl e.symm)
  have l1'' := own_cellset l1' (by omega) (init.length * 2 + 1) (.slice (some ⟨g, 0, none⟩) (o.paths.length + 1) cap)
  rw [oCells_last (o := o) (o' := ⟨o.name, o.paths ++ [p]⟩) h.plen rfl] at l1''
  obtain ⟨W2, hW2⟩ : ∃ W, W = W'.setCell ⟨gb, init.length * 2 + 1, none⟩ (.slice (some ⟨g, 0, none⟩) (o.paths.length + 1) cap) := ⟨_, rfl⟩
  rw [← hW2] at l1'' ⊢
  have hset : ∀ k, k ≠ gb → W2.heap[k]? = W'.heap[k]? := fun k hk => by rw [hW2]; exact Below.heap_setCell W' ⟨gb, init.length * 2 + 1, none⟩ _ k hk
  have hsz : wc.heap.size ≤ W2.heap.size := by
    have h1 := ha.size
    have h2 := hg.size
    rw [hW2]
    simp only [World.setCell, Array.size_modify]
    omega
  have hos : W2.os = W'.os ∧ W2.tape = W'.tape ∧ W2.output = W'.output := by rw [hW2]; exact ⟨rfl, rfl, rfl⟩
  have hfix : ∀ k, k < wc.heap.size → k ≠ gb → some k ≠ pl.ownBlock → W2.heap[k]? = wc.heap[k]? := fun k h1 h2 h3 => by rw [hset k h2, hW k h1 h3]
  have hgf : ∀ k, k < wc.heap.size → some k ≠ pl.ownBlock → k ≠ g := fun k hk hne e => by
    rcases hf with hf | hf
    · exact hne (by rw [hf, e])
    · have := ha.size; omega
  refine ⟨{ low := ⟨by rw [hos.1, hg.os, ha.os, h.low.os], by rw [hos.2.1, hg.tape, ha.tape, h.low.tape], by rw [hos.2.2, hg.output, ha.output, h.low.output], Nat.le_trans h.low.size hsz, fun k hk => by rw [hfix k (by omega) (by omega) (fun e => by have := (hr.2 _ e.symm).1; omega), h.low.block k hk]⟩, box := ?_, plen := h.plen, ini := fun i o v h1 h2 => ?_, last := ?_, off := fun g' hg' => ?_, zlow := h.zlow, keep := fun k hk => ?_ }, hsz, fun k hk hlt => ?_⟩
  · rw [hfix _ hgl (by omega) (fun e => by have := (hr.2 _ e.symm).1; omega)]; exact h.box
  · obtain ⟨g1, g2⟩ := h.ini i o v h1 h2
    refine ⟨g1, g2.imp fun a x q1 q2 => ⟨q1, ?_⟩⟩
    have hk := h.keep a.block (.inr q1)
    exact (World.cell?_of_block (hfix _ hk.1 (fun e => hk.2.2.1 (by rw [e]; rfl)) hk.2.2.2)).trans q2
  · refine ⟨l1'', ?_, fun x hx => ?_⟩
    · have : W'.ownsRow (w0.heap.size + 1) 9 1 (.slice (some ⟨g, 0, none⟩) (o.paths.length + 1) cap) (o.paths ++ [p]).length ((o.paths ++ [p]).map encS) := by simpa [encS] using ho
      refine own_same this fun g' hg' => hset g' ?_
      have e9 : g = g' := by simpa [Value.ownBlock] using hg'
      omega
    · rcases List.mem_append.1 hx with hx | hx
      · exact l3 x hx
      · rw [List.mem_singleton] at hx; rw [hx]; exact hp
  · have e9 : gb = g' := by simpa [Value.ownBlock] using hg'
    simp [Value.ownBlock]; omega
  · have h9 := h.keep k hk
    exact ⟨Nat.lt_of_lt_of_le h9.1 hsz, h9.2.1, h9.2.2.1, by have := hgf k h9.1 h9.2.2.2; simp [Value.ownBlock]; omega⟩
  · have h9 := h.keep k (.inl hk)
    exact hfix k h9.1 (fun e => h9.2.2.1 (by rw [e]; rfl)) h9.2.2.2
end Go.Proofs.YtmdemcjmcnfjmaaGreatDoor

set_option linter.unusedSimpArgs false
set_option linter.unusedVariables false
namespace Go.Proofs.YtmdemcjmcnfjmaaGreatDoor
open Go.RowKit

theorem step_run2 {w : World} {ops : Array Oper} {o : Oper} {a : Act} {K : Act → World → Prop} {Q : Exit → Act → World → Prop} {E : Prop} (hgd : o.guard = none) (s x : Operand) (t : TypeId) (ho : o.op = .call { callee := .builtin .append, args := #[s, x], argTypes := #[t, t] })
    (v u : Value) (hs : a.eval s = v) (hx : a.eval x = u) (R : Value → World → Prop) (hr : ∀ ty, ∃ v' w', (Builtin.append_ #[t, t] ty #[v, u]).run Tryz.prog w = .ok v' w' ∧ R v' w') (hK : ∀ v' w', R v' w' → K (a.put o.dst v') w') :
    if Region.wanted o (yielded ops a.tmps) = true then Oper.wp Tryz.prog o a w K Q else E := by
  have hw : Region.wanted o (yielded ops a.tmps) = true := by simp [Region.wanted, hgd]
  rw [if_pos hw]
  obtain ⟨v', w', h1, h2⟩ := hr o.type
  unfold Oper.wp execOp
  simp only [ho, resolve, invoke, builtin, Sem.run_bind, Sem.run_pure, Result.andThen_ok, List.map_toArray, List.map_cons, List.map_nil, hs, hx, h1]
  exact hK v' w' h2
theorem own_heap {w w' : World} {B : Nat} {e : TypeId} {size n : Nat} {v : Value} {xs : List Value} (h : w.ownsRow B e size v n xs) (hh : w'.heap = w.heap) : w'.ownsRow B e size v n xs := own_same h fun g _ => by rw [hh]
theorem push_reg {wq W : World} {B : Nat} {v : Value} {n : Nat} {cs : List Value} {k : ByteArray} (hh : W.heap = (wq.alloc (.cells #[.string k] 9)).heap) (h1 : W.os = wq.os) (h2 : W.tape = wq.tape) (h3 : W.output = wq.output) (ho : wq.ownsRow B 9 1 v n cs) (hn : n ≤ 4000000) (hB : B ≤ wq.heap.size) (ty : TypeId) :
    ∃ v' w', (Builtin.append_ #[22, 22] ty #[v, .slice (some ⟨wq.heap.size, 0, none⟩) 1 1]).run Tryz.prog W = .ok v' w' ∧ (∃ g cap, v' = .slice (some ⟨g, 0, none⟩) (n + 1) cap ∧ w'.ownsRow B 9 1 (.slice (some ⟨g, 0, none⟩) (n + 1) cap) (n + 1) (cs ++ [.string k]) ∧ (wq.alloc (.cells #[.string k] 9)).grownBy w' v.ownBlock ∧ (v.ownBlock = some g ∨ (wq.alloc (.cells #[.string k] 9)).heap.size = g)) := by
  obtain ⟨i0, hi, hz0, hz1, hz2⟩ := info_parts info9
  have hnb : W.heap[wq.heap.size]? = some (.cells #[.string k] 9) := by rw [hh]; exact heap_alloc_new _ _
  have hoW : W.ownsRow B 9 1 v n cs := own_heap (own_same ho fun g hg => (bel_alloc wq (.cells #[.string k] 9)).block g (own_lt ho hg).2) hh
  obtain ⟨g, cap, W', hr, g1, g2, g3, -⟩ := run_append_lies (P := Tryz.prog) W 22 ty B 9 i0 _ 1 16 Tryz.underlying22 hi hz0 hz1 hz2 rfl (by decide) v n cs hoW ⟨wq.heap.size, 0, none⟩ 1 1 [.string k] rfl
    (World.news_of_block (cs := #[.string k]) hnb) (by intro u hu; simp only [List.mem_cons, List.not_mem_nil, or_false] at hu; subst hu; rfl) (by decide) (by unfold maxLen; omega) (by omega) (by rw [hh]; have := (bel_alloc wq (.cells #[.string k] 9)).size; omega) W.heap.size rfl
  exact ⟨_, W', hr, g, cap, rfl, g1, ⟨g2.os.trans h1, g2.tape.trans h2, g2.output.trans h3, by rw [← hh]; exact g2.size, fun i hi hr => by rw [← hh] at hi ⊢; exact g2.block i hi hr⟩, g3.imp id fun e => by rw [← hh]; exact e.symm⟩
theorem own_cellat {w : World} {B : Nat} {e : TypeId} {size n cap g : Nat} {xs : List Value} (h : w.ownsRow B e size (.slice (some ⟨g, 0, none⟩) n cap) n xs) (hn : 0 < n) {i : Nat} {v : Value} (hi : xs[i]? = some v) : w.cell? ⟨g, i, none⟩ = some v ∧ w.frozen? ⟨g, i, none⟩ = false := by
  rcases h.2 with ⟨h0, -⟩ | ⟨g', cap', cur, e1, h1, h2, h3, h4, h5, h6⟩
  · cases h0
  · cases e1
    have e9 := congrArg (fun l => l[i]?) h6
    simp only [hi, List.getElem?_take] at e9
    split at e9
    · have : cur[i]? = some v := by simpa using e9
      exact ⟨by simp [World.cell?, h2, this], by simp [World.frozen?, h2]⟩
    · cases e9
theorem kpt_cells {w0 : World} {init : List Own} {o : Own} {F : Nat → Prop} {W : World} {gb oc : Nat} {pl : Value} {pin : List Value} {Z : Nat → Prop} (h : KptI w0 init (some o) F W (.slice (some ⟨gb, 0, none⟩) (init.length + 1) oc) pl pin Z) :
    W.cell? ⟨gb, init.length * 2 + 1, none⟩ = some pl ∧ W.cell? ⟨gb, init.length * 2, none⟩ = some (.string ⟨o.name.toArray⟩) := by
  have hl := h.last.1
  have hlen := oCells_len init pin h.plen
  refine ⟨(own_cellat hl (by omega) ?_).1, (own_cellat hl (by omega) ?_).1⟩
  · rw [oCells_snoc _ _ _ _ h.plen, List.getElem?_append_right (by omega), hlen, show init.length * 2 + 1 - init.length * 2 = 1 by omega]; rfl
  · rw [oCells_snoc _ _ _ _ h.plen, List.getElem?_append_right (by omega), hlen, Nat.sub_self]; rfl
theorem kpt_cell {w0 : World} {init : List Own} {o : Own} {F : Nat → Prop} {W W9 : World} {ob : Obj} {gb oc : Nat} {pl : Value} {pin : List Value} {Z : Nat → Prop} (h : KptI w0 init (some o) F W (.slice (some ⟨gb, 0, none⟩) (init.length + 1) oc) pl pin Z) (hg : (W.alloc ob).grownBy W9 pl.ownBlock) :
    W9.cell? ⟨gb, init.length * 2 + 1, none⟩ = some pl ∧ W9.frozen? ⟨gb, init.length * 2 + 1, none⟩ = false := by
  have hl := h.last.1
  have hr := h.rows.1 gb rfl
  have hlen := oCells_len init pin h.plen
  refine own_cellat (own_same hl fun g' hg' => ?_) (by omega) ?_
  · have e9 : gb = g' := by simpa [Value.ownBlock] using hg'
    subst e9
    have ha := bel_alloc W ob
    rw [hg.block gb (Nat.lt_of_lt_of_le hr.2 ha.size) (fun e => h.off gb rfl e.symm), ha.block gb hr.2]
  · rw [oCells_snoc _ _ _ _ h.plen, List.getElem?_append_right (by omega), hlen, show init.length * 2 + 1 - init.length * 2 = 1 by omega]; rfl
theorem kpt_form {w0 : World} {init : List Own} {o : Own} {F : Nat → Prop} {W : World} {ov pl : Value} {pin : List Value} {Z : Nat → Prop} (h : KptI w0 init (some o) F W ov pl pin Z) : ∃ gb oc, ov = .slice (some ⟨gb, 0, none⟩) (init.length + 1) oc := by
  rcases h.last.1.2 with ⟨-, h0⟩ | ⟨g, cap, cur, e, -⟩
  · omega
  · exact ⟨g, cap, e⟩
attribute [local go_sem ↓] Go.wp_at_zero Go.wp_at_succ
set_option maxRecDepth 100000 in
set_option maxHeartbeats 8000000 in
theorem kept1_at (w0 W : World) (gs g : Nat) (lb : Array Value) (stays : List UInt8 → List UInt8 → Bool) (os : List Own) (F : Nat → Prop) (n p : List UInt8) (eg : ∀ args w, (callFunc g args).run Tryz.prog w = .ok (.enter g args) w) (hI : KpI w0 os F W) (hgs : w0.cell? ⟨gs, 0, none⟩ = some (.func (.func g) #[] lb)) (hp : p.length ≤ maxLen)
    (hst : Calls Tryz.prog g (#[.string ⟨n.toArray⟩, .string ⟨p.toArray⟩] ++ lb) W fun e w' => e = .returned (.bool (stays n p)) ∧ Below W.heap.size W w') (hN : os.length ≤ 4000000) (hP : ∀ o ∈ os, o.paths.length ≤ 4000000) :
    Calls Tryz.prog 50 #[.string ⟨n.toArray⟩, .string ⟨p.toArray⟩, .pointer (some ⟨gs, 0, none⟩), .pointer (some ⟨w0.heap.size, 0, none⟩)] W fun e w' => e = .returned (.tuple #[]) ∧ KpI w0 (if stays n p = true then addP os n p else os) F w' ∧ W.heap.size ≤ w'.heap.size ∧ ∀ k, F k → k < W.heap.size → w'.heap[k]? = W.heap[k]? := by
  obtain ⟨init, lastO, ov, pl, pin, Z, hos, hK⟩ := hI
  have PLX := hidI hp
  have c0 := cell_bel hK.low hgs
  have KK := hidI hK
  have ST := hidI hst
  clear hK hgs hp hst
  obtain ⟨b, hb⟩ : ∃ b, stays n p = b := ⟨_, rfl⟩
  rw [hb] at ST ⊢
  clear hb
  cases b with
  | false =>
    go_enter Tryz.func50, Tryz.ntmps50
    go_wp2_with (go_at_fn g; refine ST.out.mono ?_; rintro e w1 ⟨rfl, hb⟩; have B1 := hidI hb; clear hb)
    try simp only [Exit.inBlock, Exit.then]
    refine bodyPost_ret (results_none rfl _ _ _) rfl ?_
    exact ⟨rfl, ⟨init, lastO, ov, pl, pin, Z, (by first | rfl | (simp [hos])), KK.out.bel B1.out⟩, B1.out.size, fun k hk hlt => B1.out.block k hlt⟩
  | true =>
    rw [if_pos rfl]
    go_enter Tryz.func50, Tryz.ntmps50
    go_upto_region 1 with (go_at_fn g; refine ST.out.mono ?_; rintro e w1 ⟨rfl, hb⟩; have B1 := hidI hb; clear hb)
    clear c0
    have K1 := hidI (KK.out.bel B1.out)
    have c1 : w1.cell? ⟨w0.heap.size, 0, none⟩ = some ov := by have h9 := K1.out.box; simp [World.cell?, h9]
    have FR : Hid (∀ w', KpI w0 (addP os n p) F w' ∧ w1.heap.size ≤ w'.heap.size ∧ (∀ k, F k → k < w1.heap.size → w'.heap[k]? = w1.heap[k]?) → KpI w0 (addP os n p) F w' ∧ W.heap.size ≤ w'.heap.size ∧ ∀ k, F k → k < W.heap.size → w'.heap[k]? = W.heap[k]?) := hidI (fun w' h => ⟨h.1, Nat.le_trans B1.out.size h.2.1, fun k hk hlt => by rw [h.2.2 k hk (Nat.lt_of_lt_of_le hlt B1.out.size), B1.out.block k hlt]⟩)
    clear KK B1
    cases lastO with
    | none =>
      obtain ⟨hin, hpl, hrow⟩ := K1.out.last
      subst hin
      subst hpl
      have hpn : pin = [] := List.length_eq_zero_iff.1 K1.out.plen.symm
      subst hpn
      have hoe : os = [] := by simpa using hos
      obtain ⟨oa, oc, hov⟩ : ∃ oa oc, ov = .slice oa 0 oc := by
        rcases hrow.2 with ⟨h9, -⟩ | ⟨g9, c9, _, h9, -⟩
        · exact ⟨_, _, h9⟩
        · exact ⟨_, _, h9⟩
      subst hov
      have ADD : Hid (addP os n p = [⟨n, [] ++ [p]⟩]) := hidI (by rw [hoe]; rfl)
      have PLN : Hid ((([] : List (List UInt8))).length ≤ 4000000) := hidI (by simp)
      clear hos hP hN hoe
      obtain ⟨g7, c7, W7, hR, ho7, hg7, hf7⟩ := run_pushO (W := w1.alloc (.cells #[.string ⟨n.toArray⟩, .slice none 0 0] 41)) (B := w0.heap.size + 1) (v := .slice oa 0 oc) (n := 0) (cs := []) (nb := w1.heap.size) (k := ⟨n.toArray⟩) (pa := none) (pn := 0) (pc := 0) (own_same hrow fun g hg => (bel_alloc _ _).block g (own_lt hrow hg).2) (heap_alloc_new _ _) (by omega) (by have := (bel_alloc w1 (.cells #[.string ⟨n.toArray⟩, .slice none 0 0] 41)).size; have := (Array.getElem?_eq_some_iff.1 K1.out.box).1; omega) 26
      have KN := hidI (kpt_new (n := n) (N := 0) (cells := []) K1.out (by simp) rfl ho7 hg7 hf7)
      have HR := hidI hR
      have hgl : w0.heap.size < w1.heap.size := (Array.getElem?_eq_some_iff.1 K1.out.box).1
      have c0a : ∀ o, (w1.alloc o).cell? ⟨w0.heap.size, 0, none⟩ = some (.slice oa 0 oc) := fun o => cell_bel (bel_alloc _ _) c1
      have hb7 : W7.heap[w0.heap.size]? = some (.cells #[.slice oa 0 oc] 26) := by
        rw [hg7.block _ (Nat.lt_of_lt_of_le hgl (bel_alloc w1 _).size) (fun e => by have := (own_lt hrow e.symm).1; omega), (bel_alloc w1 _).block _ hgl, K1.out.box]
      have c7a : W7.cell? ⟨w0.heap.size, 0, none⟩ = some (.slice oa 0 oc) := by simp [World.cell?, hb7]
      have c7f : W7.frozen? ⟨w0.heap.size, 0, none⟩ = false := by simp [World.frozen?, hb7]
      clear hR ho7 hg7 hf7 hb7 hrow
      go_wp2_with (at_builtin; go_must (refine Lib.wpList_append_run _ rfl _ _ _ _ rfl (.slice oa 0 oc) (.slice (some ⟨w1.heap.size, 0, none⟩) 1 1) rfl rfl _ _ HR.out ?_); refine Hid.out ?_)
      refine hidI ?_
      go_upto_region 5 with fail
      obtain ⟨wq, hwq⟩ : ∃ wq, wq = W7.setCell ⟨w0.heap.size, 0, none⟩ (.slice (some ⟨g7, 0, none⟩) (0 + 1) c7) := ⟨_, rfl⟩
      rw [← hwq] at KN ⊢
      clear hwq c1 c0a c7a c7f
      obtain ⟨in2, hin2⟩ : ∃ i : List Own, [] = i := ⟨_, rfl⟩
      have hlen : in2.length = 0 := by rw [← hin2]; rfl
      obtain ⟨pin2, hpin2⟩ : ∃ i : List Value, [] = i := ⟨_, rfl⟩
      obtain ⟨Z2, hZ2⟩ : ∃ i, (fun k => Z k ∨ (Value.slice none 0 0).ownBlock = some k) = i := ⟨_, rfl⟩
      have KQ : Hid (KptI w0 in2 (some ⟨n, []⟩) F wq (.slice (some ⟨g7, 0, none⟩) (in2.length + 1) c7) (.slice none 0 0) pin2 Z2) := hidI (by
        rw [hlen, ← hin2, ← hpin2, ← hZ2]
        exact KN.out.1)
      have FK := hidI KN.out.2
      have HLEN := hidI hlen
      have FINAL : Hid (∀ w' pl', KptI w0 in2 (some ⟨n, [] ++ [p]⟩) F w' (.slice (some ⟨g7, 0, none⟩) (in2.length + 1) c7) pl' pin2 Z2 ∧ wq.heap.size ≤ w'.heap.size ∧ (∀ k, F k → k < wq.heap.size → w'.heap[k]? = wq.heap[k]?) → KpI w0 (addP os n p) F w' ∧ W.heap.size ≤ w'.heap.size ∧ ∀ k, F k → k < W.heap.size → w'.heap[k]? = W.heap[k]?) := hidI (fun w' pl' h => FR.out w' ⟨⟨in2, some ⟨n, [] ++ [p]⟩, _, pl', pin2, Z2, by rw [ADD.out, ← hin2]; rfl, h.1⟩, Nat.le_trans FK.out.1 h.2.1, fun k hk hlt => by rw [h.2.2 k hk (Nat.lt_of_lt_of_le hlt FK.out.1), FK.out.2 k hk hlt]⟩)
      clear hlen KN K1 hin2 hpin2 hZ2
      obtain ⟨pl9, hpl9⟩ : ∃ x : Value, x = .slice none 0 0 := ⟨_, rfl⟩
      rw [← hpl9] at KQ
      clear hpl9
      have C0 : Hid (wq.cell? ⟨w0.heap.size, 0, none⟩ = some (.slice (some ⟨g7, 0, none⟩) (0 + 1) c7)) := hidI (by have h9 := KQ.out.box; rw [HLEN.out] at h9; simp [World.cell?, h9])
      have N0 : Hid (some w0.heap.size ≠ pl9.ownBlock) := hidI (fun e => by have := (KQ.out.rows.2 _ e.symm).1; omega)
      have C1 : Hid (wq.cell? ⟨g7, 0 * 2 + 1, none⟩ = some pl9) := hidI (by have h9 := (kpt_cells KQ.out).1; rw [HLEN.out] at h9; exact h9)
      have N1 : Hid (some g7 ≠ pl9.ownBlock) := hidI (fun e => KQ.out.off g7 rfl e.symm)
      have PLF := KQ.out.last.2.1
      obtain ⟨sa, sn, sc, hsv⟩ : ∃ sa sn sc, pl9 = .slice sa sn sc := by
        rcases PLF.2 with ⟨h9, -⟩ | ⟨_, _, _, h9, -⟩
        · exact ⟨_, _, _, h9⟩
        · exact ⟨_, _, _, h9⟩
      subst hsv
      clear PLF
      refine wp_region_T (fun wS => World.grownBy wq wS (Value.slice sa sn sc).ownBlock) [12] (by kernel_rfl) (gb_drew (gb_refl _ _)) (fun hHeld => ?_)
      refine wpAnyT_take (i := 0) (v := ?_) [10, 11, 12] (oi := _) rfl (by kernel_rfl) (by kernel_rfl) (by kernel_rfl) (by kernel_rfl) (fun _ _ _ h => h) (Or.inl ⟨by rfl, ?_⟩) hHeld ?_
      rotate_left
      · intro wS hSw
        have u0 := hSw.cell C0.out N0.out
        have u1 := hSw.cell C1.out N1.out
        go_simp
        all_goals with_reducible rfl
      simp only [Act.put, List.setIfInBounds_toArray, List.set_cons_zero, List.set_cons_succ]
      refine wpAnyT_take (i := 1) (v := ?_) [10, 11, 12] (oi := _) rfl (by kernel_rfl) (by kernel_rfl) (by kernel_rfl) (by kernel_rfl) (fun _ _ _ h => h) (Or.inl ⟨by rfl, ?_⟩) hHeld ?_
      rotate_left
      · intro wS hSw
        go_simp
        all_goals with_reducible rfl
      simp only [Act.put, List.setIfInBounds_toArray, List.set_cons_zero, List.set_cons_succ]
      refine wpAnyT_take (i := 2) (v := ?_) [4, 5, 6, 9, 10, 11, 12] (oi := _) rfl (by kernel_rfl) (by kernel_rfl) (by kernel_rfl) (by kernel_rfl) (fun _ _ _ h => h) (Or.inl ⟨by rfl, ?_⟩) hHeld ?_
      rotate_left
      · intro wS hSw
        have u0 := hSw.cell C0.out N0.out
        have u1 := hSw.cell C1.out N1.out
        go_simp
        all_goals with_reducible rfl
      simp only [Act.put, List.setIfInBounds_toArray, List.set_cons_zero, List.set_cons_succ]
      refine wpAnyT_take (i := 3) (v := ?_) [4, 5, 6, 9, 10, 11, 12] (oi := _) rfl (by kernel_rfl) (by kernel_rfl) (by kernel_rfl) (by kernel_rfl) (fun _ _ _ h => h) (Or.inl ⟨by rfl, ?_⟩) hHeld ?_
      rotate_left
      · intro wS hSw
        go_simp
        all_goals with_reducible rfl
      simp only [Act.put, List.setIfInBounds_toArray, List.set_cons_zero, List.set_cons_succ]
      refine wpAnyT_take (i := 4) (v := ?_) [5, 6, 9, 10, 11, 12] (oi := _) rfl (by kernel_rfl) (by kernel_rfl) (by kernel_rfl) (by kernel_rfl) (fun _ _ _ h => h) (Or.inl ⟨by rfl, ?_⟩) hHeld ?_
      rotate_left
      · intro wS hSw
        go_simp
        all_goals with_reducible rfl
      simp only [Act.put, List.setIfInBounds_toArray, List.set_cons_zero, List.set_cons_succ]
      refine wpAnyT_take (i := 5) (v := ?_) [6, 9, 10, 11, 12] (oi := _) rfl (by kernel_rfl) (by kernel_rfl) (by kernel_rfl) (by kernel_rfl) (fun _ _ _ h => h) (Or.inl ⟨by rfl, ?_⟩) hHeld ?_
      rotate_left
      · intro wS hSw
        go_simp
        all_goals with_reducible rfl
      simp only [Act.put, List.setIfInBounds_toArray, List.set_cons_zero, List.set_cons_succ]
      refine wpAnyT_take (i := 6) (v := ?_) [9, 10, 11, 12] (oi := _) rfl (by kernel_rfl) (by kernel_rfl) (by kernel_rfl) (by kernel_rfl) (fun _ _ _ h => h) (Or.inl ⟨by rfl, ?_⟩) hHeld ?_
      rotate_left
      · intro wS hSw
        have u0 := hSw.cell C0.out N0.out
        have u1 := hSw.cell C1.out N1.out
        go_simp
        all_goals with_reducible rfl
      simp only [Act.put, List.setIfInBounds_toArray, List.set_cons_zero, List.set_cons_succ]
      refine wpAnyT_take (i := 7) (v := ?_) [8, 9, 10, 11, 12] (oi := _) rfl (by kernel_rfl) (by kernel_rfl) (by kernel_rfl) (by kernel_rfl) (fun _ _ _ h => h) (Or.inl ⟨by rfl, ?_⟩) hHeld ?_
      rotate_left
      · intro wS hSw
        go_simp
        all_goals with_reducible rfl
      simp only [Act.put, List.setIfInBounds_toArray, List.set_cons_zero, List.set_cons_succ]
      refine wpAnyT_ready (rs := [8]) (by kernel_rfl) (by simp) ?_
      refine AllReadyT.cons (i := 8) (o := _) rfl (fun K hK => ?_) ?_
      · go_simp
        refine hK.out _ _ (gb_alloc hHeld _) (fun hHeld2 => ?_)
        clear hK K
        replace hHeld := hHeld2
        clear hHeld2
        try simp only [Act.put, List.setIfInBounds_toArray, List.set_cons_zero, List.set_cons_succ]
        refine wpAnyT_ready (rs := [9]) (by kernel_rfl) (by simp) ?_
        refine AllReadyT.cons (i := 9) (o := _) rfl (fun K hK => ?_) ?_
        · refine step_run2 (by rfl) (.tmp 39) (.tmp 41) 22 (by rfl) _ _ (by rfl) (by rfl) _ (fun ty => push_reg (wq := wq) (by rfl) (by rfl) (by rfl) (by rfl) KQ.out.last.2.1 PLN.out (by have := (Array.getElem?_eq_some_iff.1 KQ.out.box).1; omega) ty) (fun v9 W9 hR => ?_)
          obtain ⟨g9, c9, rfl, ho9, hg9, hf9⟩ := hR
          have FIN := hidI (kpt_path KQ.out PLX.out ho9 hg9 hf9)
          have ROWS := hidI (kpt_cell KQ.out hg9)
          refine hK.out _ _ (gb_trans (World.grownBy_alloc wq _ _) hg9) (fun hHeld2 => ?_)
          clear ho9 hg9 hf9
          clear hK K
          replace hHeld := hHeld2
          clear hHeld2
          try simp only [Act.put, List.setIfInBounds_toArray, List.set_cons_zero, List.set_cons_succ]
          refine wpAnyT_take (i := 10) (v := ?_) [11, 12] (oi := _) rfl (by kernel_rfl) (by kernel_rfl) (by kernel_rfl) (by kernel_rfl) (fun _ _ _ h => h) (Or.inl ⟨by rfl, ?_⟩) hHeld ?_
          rotate_left
          · intro wS hSw
            go_simp
            all_goals with_reducible rfl
          simp only [Act.put, List.setIfInBounds_toArray, List.set_cons_zero, List.set_cons_succ]
          refine wpAnyT_take (i := 11) (v := ?_) [12] (oi := _) rfl (by kernel_rfl) (by kernel_rfl) (by kernel_rfl) (by kernel_rfl) (fun _ _ _ h => h) (Or.inl ⟨by rfl, ?_⟩) hHeld ?_
          rotate_left
          · intro wS hSw
            go_simp
            all_goals with_reducible rfl
          simp only [Act.put, List.setIfInBounds_toArray, List.set_cons_zero, List.set_cons_succ]
          obtain ⟨n0, m0⟩ := ROWS.out
          rw [HLEN.out] at n0 m0
          have FIN2 := FINAL.out _ _ FIN.out
          rw [HLEN.out] at FIN2
          have FIN3 := hidI FIN2
          clear FIN2
          refine wpAnyT_last (i := 12) (o := _) (by kernel_rfl) (by rfl) rfl (fun K hK => ?_)
          go_simp
          refine hK.out _ _ ?_
          clear hK K
          try simp only [Act.put, List.setIfInBounds_toArray, List.set_cons_zero, List.set_cons_succ]
          refine wpAnyT_done (by kernel_rfl) ?_ _
          clear n0 m0
          go_wp2_with fail
          go_end0
          exact ⟨rfl, FIN3.out⟩
        exact AllReadyT.nil
      exact AllReadyT.nil
    | some o =>
      obtain ⟨gb, oc, hov⟩ := kpt_form K1.out
      subst hov
      by_cases hn : o.name = n
      · subst hn
        have ADD : Hid (addP os o.name p = init ++ [⟨o.name, o.paths ++ [p]⟩]) := hidI (by rw [hos]; exact addP_same init o p)
        have c2 := (kpt_cells K1.out).2
        have PLN : Hid (o.paths.length ≤ 4000000) := hidI (hP o (by rw [hos]; simp))
        have hnl : init.length + 1 ≤ 4000000 := by rw [hos] at hN; simpa using hN
        clear hos hP hN
        obtain ⟨wq, hwq⟩ : ∃ wq, wq = w1 := ⟨_, rfl⟩
        subst hwq
        have FINAL : Hid (∀ w' pl', KptI w0 init (some ⟨o.name, o.paths ++ [p]⟩) F w' (.slice (some ⟨gb, 0, none⟩) (init.length + 1) oc) pl' pin Z ∧ wq.heap.size ≤ w'.heap.size ∧ (∀ k, F k → k < wq.heap.size → w'.heap[k]? = wq.heap[k]?) → KpI w0 (addP os o.name p) F w' ∧ W.heap.size ≤ w'.heap.size ∧ ∀ k, F k → k < W.heap.size → w'.heap[k]? = W.heap[k]?) := hidI (fun w' pl' h => FR.out w' ⟨⟨init, some ⟨o.name, o.paths ++ [p]⟩, _, pl', pin, Z, by rw [ADD.out]; rfl, h.1⟩, h.2⟩)
        have KQ := K1
        clear K1
        go_upto_region 5 with fail
        clear c1 c2
        have C0 : Hid (wq.cell? ⟨w0.heap.size, 0, none⟩ = some (.slice (some ⟨gb, 0, none⟩) (init.length + 1) oc)) := hidI (by have h9 := KQ.out.box; simp [World.cell?, h9])
        have N0 : Hid (some w0.heap.size ≠ pl.ownBlock) := hidI (fun e => by have := (KQ.out.rows.2 _ e.symm).1; omega)
        have C1 : Hid (wq.cell? ⟨gb, init.length * 2 + 1, none⟩ = some pl) := hidI (by have h9 := (kpt_cells KQ.out).1; exact h9)
        have N1 : Hid (some gb ≠ pl.ownBlock) := hidI (fun e => KQ.out.off gb rfl e.symm)
        have PLF := KQ.out.last.2.1
        obtain ⟨sa, sn, sc, hsv⟩ : ∃ sa sn sc, pl = .slice sa sn sc := by
          rcases PLF.2 with ⟨h9, -⟩ | ⟨_, _, _, h9, -⟩
          · exact ⟨_, _, _, h9⟩
          · exact ⟨_, _, _, h9⟩
        subst hsv
        clear PLF
        refine wp_region_T (fun wS => World.grownBy wq wS (Value.slice sa sn sc).ownBlock) [12] (by kernel_rfl) (gb_drew (gb_refl _ _)) (fun hHeld => ?_)
        refine wpAnyT_take (i := 0) (v := ?_) [10, 11, 12] (oi := _) rfl (by kernel_rfl) (by kernel_rfl) (by kernel_rfl) (by kernel_rfl) (fun _ _ _ h => h) (Or.inl ⟨by rfl, ?_⟩) hHeld ?_
        rotate_left
        · intro wS hSw
          have u0 := hSw.cell C0.out N0.out
          have u1 := hSw.cell C1.out N1.out
          go_simp
          all_goals with_reducible rfl
        simp only [Act.put, List.setIfInBounds_toArray, List.set_cons_zero, List.set_cons_succ]
        refine wpAnyT_take (i := 1) (v := ?_) [10, 11, 12] (oi := _) rfl (by kernel_rfl) (by kernel_rfl) (by kernel_rfl) (by kernel_rfl) (fun _ _ _ h => h) (Or.inl ⟨by rfl, ?_⟩) hHeld ?_
        rotate_left
        · intro wS hSw
          go_simp
          all_goals with_reducible rfl
        simp only [Act.put, List.setIfInBounds_toArray, List.set_cons_zero, List.set_cons_succ]
        refine wpAnyT_take (i := 2) (v := ?_) [4, 5, 6, 9, 10, 11, 12] (oi := _) rfl (by kernel_rfl) (by kernel_rfl) (by kernel_rfl) (by kernel_rfl) (fun _ _ _ h => h) (Or.inl ⟨by rfl, ?_⟩) hHeld ?_
        rotate_left
        · intro wS hSw
          have u0 := hSw.cell C0.out N0.out
          have u1 := hSw.cell C1.out N1.out
          go_simp
          all_goals with_reducible rfl
        simp only [Act.put, List.setIfInBounds_toArray, List.set_cons_zero, List.set_cons_succ]
        refine wpAnyT_take (i := 3) (v := ?_) [4, 5, 6, 9, 10, 11, 12] (oi := _) rfl (by kernel_rfl) (by kernel_rfl) (by kernel_rfl) (by kernel_rfl) (fun _ _ _ h => h) (Or.inl ⟨by rfl, ?_⟩) hHeld ?_
        rotate_left
        · intro wS hSw
          go_simp
          all_goals with_reducible rfl
        simp only [Act.put, List.setIfInBounds_toArray, List.set_cons_zero, List.set_cons_succ]
        refine wpAnyT_take (i := 4) (v := ?_) [5, 6, 9, 10, 11, 12] (oi := _) rfl (by kernel_rfl) (by kernel_rfl) (by kernel_rfl) (by kernel_rfl) (fun _ _ _ h => h) (Or.inl ⟨by rfl, ?_⟩) hHeld ?_
        rotate_left
        · intro wS hSw
          go_simp
          all_goals with_reducible rfl
        simp only [Act.put, List.setIfInBounds_toArray, List.set_cons_zero, List.set_cons_succ]
        refine wpAnyT_take (i := 5) (v := ?_) [6, 9, 10, 11, 12] (oi := _) rfl (by kernel_rfl) (by kernel_rfl) (by kernel_rfl) (by kernel_rfl) (fun _ _ _ h => h) (Or.inl ⟨by rfl, ?_⟩) hHeld ?_
        rotate_left
        · intro wS hSw
          go_simp
          all_goals with_reducible rfl
        simp only [Act.put, List.setIfInBounds_toArray, List.set_cons_zero, List.set_cons_succ]
        refine wpAnyT_take (i := 6) (v := ?_) [9, 10, 11, 12] (oi := _) rfl (by kernel_rfl) (by kernel_rfl) (by kernel_rfl) (by kernel_rfl) (fun _ _ _ h => h) (Or.inl ⟨by rfl, ?_⟩) hHeld ?_
        rotate_left
        · intro wS hSw
          have u0 := hSw.cell C0.out N0.out
          have u1 := hSw.cell C1.out N1.out
          go_simp
          all_goals with_reducible rfl
        simp only [Act.put, List.setIfInBounds_toArray, List.set_cons_zero, List.set_cons_succ]
        refine wpAnyT_take (i := 7) (v := ?_) [8, 9, 10, 11, 12] (oi := _) rfl (by kernel_rfl) (by kernel_rfl) (by kernel_rfl) (by kernel_rfl) (fun _ _ _ h => h) (Or.inl ⟨by rfl, ?_⟩) hHeld ?_
        rotate_left
        · intro wS hSw
          go_simp
          all_goals with_reducible rfl
        simp only [Act.put, List.setIfInBounds_toArray, List.set_cons_zero, List.set_cons_succ]
        refine wpAnyT_ready (rs := [8]) (by kernel_rfl) (by simp) ?_
        refine AllReadyT.cons (i := 8) (o := _) rfl (fun K hK => ?_) ?_
        · go_simp
          refine hK.out _ _ (gb_alloc hHeld _) (fun hHeld2 => ?_)
          clear hK K
          replace hHeld := hHeld2
          clear hHeld2
          try simp only [Act.put, List.setIfInBounds_toArray, List.set_cons_zero, List.set_cons_succ]
          refine wpAnyT_ready (rs := [9]) (by kernel_rfl) (by simp) ?_
          refine AllReadyT.cons (i := 9) (o := _) rfl (fun K hK => ?_) ?_
          · refine step_run2 (by rfl) (.tmp 39) (.tmp 41) 22 (by rfl) _ _ (by rfl) (by rfl) _ (fun ty => push_reg (wq := wq) (by rfl) (by rfl) (by rfl) (by rfl) KQ.out.last.2.1 PLN.out (by have := (Array.getElem?_eq_some_iff.1 KQ.out.box).1; omega) ty) (fun v9 W9 hR => ?_)
            obtain ⟨g9, c9, rfl, ho9, hg9, hf9⟩ := hR
            have FIN := hidI (kpt_path KQ.out PLX.out ho9 hg9 hf9)
            have ROWS := hidI (kpt_cell KQ.out hg9)
            refine hK.out _ _ (gb_trans (World.grownBy_alloc wq _ _) hg9) (fun hHeld2 => ?_)
            clear ho9 hg9 hf9
            clear hK K
            replace hHeld := hHeld2
            clear hHeld2
            try simp only [Act.put, List.setIfInBounds_toArray, List.set_cons_zero, List.set_cons_succ]
            refine wpAnyT_take (i := 10) (v := ?_) [11, 12] (oi := _) rfl (by kernel_rfl) (by kernel_rfl) (by kernel_rfl) (by kernel_rfl) (fun _ _ _ h => h) (Or.inl ⟨by rfl, ?_⟩) hHeld ?_
            rotate_left
            · intro wS hSw
              go_simp
              all_goals with_reducible rfl
            simp only [Act.put, List.setIfInBounds_toArray, List.set_cons_zero, List.set_cons_succ]
            refine wpAnyT_take (i := 11) (v := ?_) [12] (oi := _) rfl (by kernel_rfl) (by kernel_rfl) (by kernel_rfl) (by kernel_rfl) (fun _ _ _ h => h) (Or.inl ⟨by rfl, ?_⟩) hHeld ?_
            rotate_left
            · intro wS hSw
              go_simp
              all_goals with_reducible rfl
            simp only [Act.put, List.setIfInBounds_toArray, List.set_cons_zero, List.set_cons_succ]
            obtain ⟨n0, m0⟩ := ROWS.out
            have FIN3 := hidI (FINAL.out _ _ FIN.out)
            refine wpAnyT_last (i := 12) (o := _) (by kernel_rfl) (by rfl) rfl (fun K hK => ?_)
            go_simp
            refine hK.out _ _ ?_
            clear hK K
            try simp only [Act.put, List.setIfInBounds_toArray, List.set_cons_zero, List.set_cons_succ]
            refine wpAnyT_done (by kernel_rfl) ?_ _
            clear n0 m0
            go_wp2_with fail
            go_end0
            exact ⟨rfl, FIN3.out⟩
          exact AllReadyT.nil
        exact AllReadyT.nil
      · have e9 : (o.name == n) = false := by simpa using hn
        have i9 : (0 : Int) ≤ (init.length : Int) + 1 := by omega
        have ADD : Hid (addP os n p = (init ++ [o]) ++ [⟨n, [] ++ [p]⟩]) := hidI (by rw [hos]; exact addP_new init o n p hn)
        have c2 := (kpt_cells K1.out).2
        have hnl : init.length + 1 ≤ 4000000 := by rw [hos] at hN; simpa using hN
        have PLN : Hid ((([] : List (List UInt8))).length ≤ 4000000) := hidI (by simp)
        clear hos hP hN
        obtain ⟨g7, c7, W7, hR, ho7, hg7, hf7⟩ := run_pushO (W := w1.alloc (.cells #[.string ⟨n.toArray⟩, .slice none 0 0] 41)) (B := w0.heap.size + 1) (v := .slice (some ⟨gb, 0, none⟩) (init.length + 1) oc) (n := init.length + 1) (cs := oCells (init ++ [o]) (pin ++ [pl])) (nb := w1.heap.size) (k := ⟨n.toArray⟩) (pa := none) (pn := 0) (pc := 0) (own_same K1.out.last.1 fun g hg => (bel_alloc _ _).block g (own_lt K1.out.last.1 hg).2) (heap_alloc_new _ _) hnl (by have := (bel_alloc w1 (.cells #[.string ⟨n.toArray⟩, .slice none 0 0] 41)).size; have := (Array.getElem?_eq_some_iff.1 K1.out.box).1; omega) 26
        have KN := hidI (kpt_new (n := n) (N := init.length + 1) (cells := oCells (init ++ [o]) (pin ++ [pl])) K1.out (by simp) rfl ho7 hg7 hf7)
        have HR := hidI hR
        have hgl : w0.heap.size < w1.heap.size := (Array.getElem?_eq_some_iff.1 K1.out.box).1
        have c0a : ∀ o, (w1.alloc o).cell? ⟨w0.heap.size, 0, none⟩ = some (.slice (some ⟨gb, 0, none⟩) (init.length + 1) oc) := fun o => cell_bel (bel_alloc _ _) c1
        have hb7 : W7.heap[w0.heap.size]? = some (.cells #[.slice (some ⟨gb, 0, none⟩) (init.length + 1) oc] 26) := by
          rw [hg7.block _ (Nat.lt_of_lt_of_le hgl (bel_alloc w1 _).size) (fun e => by have := (own_lt K1.out.last.1 e.symm).1; omega), (bel_alloc w1 _).block _ hgl, K1.out.box]
        have c7a : W7.cell? ⟨w0.heap.size, 0, none⟩ = some (.slice (some ⟨gb, 0, none⟩) (init.length + 1) oc) := by simp [World.cell?, hb7]
        have c7f : W7.frozen? ⟨w0.heap.size, 0, none⟩ = false := by simp [World.frozen?, hb7]
        clear hR ho7 hg7 hf7 hb7
        go_wp2_with (at_builtin; go_must (refine Lib.wpList_append_run _ rfl _ _ _ _ rfl (.slice (some ⟨gb, 0, none⟩) (init.length + 1) oc) (.slice (some ⟨w1.heap.size, 0, none⟩) 1 1) rfl rfl _ _ HR.out ?_); refine Hid.out ?_)
        refine hidI ?_
        go_upto_region 5 with fail
        obtain ⟨wq, hwq⟩ : ∃ wq, wq = W7.setCell ⟨w0.heap.size, 0, none⟩ (.slice (some ⟨g7, 0, none⟩) (init.length + 1 + 1) c7) := ⟨_, rfl⟩
        rw [← hwq] at KN ⊢
        clear hwq c1 c2 c0a c7a c7f
        obtain ⟨in2, hin2⟩ : ∃ i, init ++ [o] = i := ⟨_, rfl⟩
        have hlen : in2.length = init.length + 1 := by rw [← hin2]; simp
        obtain ⟨pin2, hpin2⟩ : ∃ i, pin ++ [pl] = i := ⟨_, rfl⟩
        obtain ⟨Z2, hZ2⟩ : ∃ i, (fun k => Z k ∨ pl.ownBlock = some k) = i := ⟨_, rfl⟩
        have KQ : Hid (KptI w0 in2 (some ⟨n, []⟩) F wq (.slice (some ⟨g7, 0, none⟩) (in2.length + 1) c7) (.slice none 0 0) pin2 Z2) := hidI (by
          rw [hlen, ← hin2, ← hpin2, ← hZ2]
          exact KN.out.1)
        have FK := hidI KN.out.2
        have HLEN := hidI hlen
        have FINAL : Hid (∀ w' pl', KptI w0 in2 (some ⟨n, [] ++ [p]⟩) F w' (.slice (some ⟨g7, 0, none⟩) (in2.length + 1) c7) pl' pin2 Z2 ∧ wq.heap.size ≤ w'.heap.size ∧ (∀ k, F k → k < wq.heap.size → w'.heap[k]? = wq.heap[k]?) → KpI w0 (addP os n p) F w' ∧ W.heap.size ≤ w'.heap.size ∧ ∀ k, F k → k < W.heap.size → w'.heap[k]? = W.heap[k]?) := hidI (fun w' pl' h => FR.out w' ⟨⟨in2, some ⟨n, [] ++ [p]⟩, _, pl', pin2, Z2, by rw [ADD.out, hin2]; rfl, h.1⟩, Nat.le_trans FK.out.1 h.2.1, fun k hk hlt => by rw [h.2.2 k hk (Nat.lt_of_lt_of_le hlt FK.out.1), FK.out.2 k hk hlt]⟩)
        clear hlen KN K1 hin2 hpin2 hZ2
        obtain ⟨pl9, hpl9⟩ : ∃ x : Value, x = .slice none 0 0 := ⟨_, rfl⟩
        rw [← hpl9] at KQ
        clear hpl9
        have C0 : Hid (wq.cell? ⟨w0.heap.size, 0, none⟩ = some (.slice (some ⟨g7, 0, none⟩) (init.length + 1 + 1) c7)) := hidI (by have h9 := KQ.out.box; rw [HLEN.out] at h9; simp [World.cell?, h9])
        have N0 : Hid (some w0.heap.size ≠ pl9.ownBlock) := hidI (fun e => by have := (KQ.out.rows.2 _ e.symm).1; omega)
        have C1 : Hid (wq.cell? ⟨g7, (init.length + 1) * 2 + 1, none⟩ = some pl9) := hidI (by have h9 := (kpt_cells KQ.out).1; rw [HLEN.out] at h9; exact h9)
        have N1 : Hid (some g7 ≠ pl9.ownBlock) := hidI (fun e => KQ.out.off g7 rfl e.symm)
        have PLF := KQ.out.last.2.1
        obtain ⟨sa, sn, sc, hsv⟩ : ∃ sa sn sc, pl9 = .slice sa sn sc := by
          rcases PLF.2 with ⟨h9, -⟩ | ⟨_, _, _, h9, -⟩
          · exact ⟨_, _, _, h9⟩
          · exact ⟨_, _, _, h9⟩
        subst hsv
        clear PLF
        refine wp_region_T (fun wS => World.grownBy wq wS (Value.slice sa sn sc).ownBlock) [12] (by kernel_rfl) (gb_drew (gb_refl _ _)) (fun hHeld => ?_)
        refine wpAnyT_take (i := 0) (v := ?_) [10, 11, 12] (oi := _) rfl (by kernel_rfl) (by kernel_rfl) (by kernel_rfl) (by kernel_rfl) (fun _ _ _ h => h) (Or.inl ⟨by rfl, ?_⟩) hHeld ?_
        rotate_left
        · intro wS hSw
          have u0 := hSw.cell C0.out N0.out
          have u1 := hSw.cell C1.out N1.out
          go_simp
          all_goals with_reducible rfl
        simp only [Act.put, List.setIfInBounds_toArray, List.set_cons_zero, List.set_cons_succ]
        refine wpAnyT_take (i := 1) (v := ?_) [10, 11, 12] (oi := _) rfl (by kernel_rfl) (by kernel_rfl) (by kernel_rfl) (by kernel_rfl) (fun _ _ _ h => h) (Or.inl ⟨by rfl, ?_⟩) hHeld ?_
        rotate_left
        · intro wS hSw
          go_simp
          all_goals with_reducible rfl
        simp only [Act.put, List.setIfInBounds_toArray, List.set_cons_zero, List.set_cons_succ]
        refine wpAnyT_take (i := 2) (v := ?_) [4, 5, 6, 9, 10, 11, 12] (oi := _) rfl (by kernel_rfl) (by kernel_rfl) (by kernel_rfl) (by kernel_rfl) (fun _ _ _ h => h) (Or.inl ⟨by rfl, ?_⟩) hHeld ?_
        rotate_left
        · intro wS hSw
          have u0 := hSw.cell C0.out N0.out
          have u1 := hSw.cell C1.out N1.out
          go_simp
          all_goals with_reducible rfl
        simp only [Act.put, List.setIfInBounds_toArray, List.set_cons_zero, List.set_cons_succ]
        refine wpAnyT_take (i := 3) (v := ?_) [4, 5, 6, 9, 10, 11, 12] (oi := _) rfl (by kernel_rfl) (by kernel_rfl) (by kernel_rfl) (by kernel_rfl) (fun _ _ _ h => h) (Or.inl ⟨by rfl, ?_⟩) hHeld ?_
        rotate_left
        · intro wS hSw
          go_simp
          all_goals with_reducible rfl
        simp only [Act.put, List.setIfInBounds_toArray, List.set_cons_zero, List.set_cons_succ]
        refine wpAnyT_take (i := 4) (v := ?_) [5, 6, 9, 10, 11, 12] (oi := _) rfl (by kernel_rfl) (by kernel_rfl) (by kernel_rfl) (by kernel_rfl) (fun _ _ _ h => h) (Or.inl ⟨by rfl, ?_⟩) hHeld ?_
        rotate_left
        · intro wS hSw
          go_simp
          all_goals with_reducible rfl
        simp only [Act.put, List.setIfInBounds_toArray, List.set_cons_zero, List.set_cons_succ]
        refine wpAnyT_take (i := 5) (v := ?_) [6, 9, 10, 11, 12] (oi := _) rfl (by kernel_rfl) (by kernel_rfl) (by kernel_rfl) (by kernel_rfl) (fun _ _ _ h => h) (Or.inl ⟨by rfl, ?_⟩) hHeld ?_
        rotate_left
        · intro wS hSw
          go_simp
          all_goals with_reducible rfl
        simp only [Act.put, List.setIfInBounds_toArray, List.set_cons_zero, List.set_cons_succ]
        refine wpAnyT_take (i := 6) (v := ?_) [9, 10, 11, 12] (oi := _) rfl (by kernel_rfl) (by kernel_rfl) (by kernel_rfl) (by kernel_rfl) (fun _ _ _ h => h) (Or.inl ⟨by rfl, ?_⟩) hHeld ?_
        rotate_left
        · intro wS hSw
          have u0 := hSw.cell C0.out N0.out
          have u1 := hSw.cell C1.out N1.out
          go_simp
          all_goals with_reducible rfl
        simp only [Act.put, List.setIfInBounds_toArray, List.set_cons_zero, List.set_cons_succ]
        refine wpAnyT_take (i := 7) (v := ?_) [8, 9, 10, 11, 12] (oi := _) rfl (by kernel_rfl) (by kernel_rfl) (by kernel_rfl) (by kernel_rfl) (fun _ _ _ h => h) (Or.inl ⟨by rfl, ?_⟩) hHeld ?_
        rotate_left
        · intro wS hSw
          go_simp
          all_goals with_reducible rfl
        simp only [Act.put, List.setIfInBounds_toArray, List.set_cons_zero, List.set_cons_succ]
        refine wpAnyT_ready (rs := [8]) (by kernel_rfl) (by simp) ?_
        refine AllReadyT.cons (i := 8) (o := _) rfl (fun K hK => ?_) ?_
        · go_simp
          refine hK.out _ _ (gb_alloc hHeld _) (fun hHeld2 => ?_)
          clear hK K
          replace hHeld := hHeld2
          clear hHeld2
          try simp only [Act.put, List.setIfInBounds_toArray, List.set_cons_zero, List.set_cons_succ]
          refine wpAnyT_ready (rs := [9]) (by kernel_rfl) (by simp) ?_
          refine AllReadyT.cons (i := 9) (o := _) rfl (fun K hK => ?_) ?_
          · refine step_run2 (by rfl) (.tmp 39) (.tmp 41) 22 (by rfl) _ _ (by rfl) (by rfl) _ (fun ty => push_reg (wq := wq) (by rfl) (by rfl) (by rfl) (by rfl) KQ.out.last.2.1 PLN.out (by have := (Array.getElem?_eq_some_iff.1 KQ.out.box).1; omega) ty) (fun v9 W9 hR => ?_)
            obtain ⟨g9, c9, rfl, ho9, hg9, hf9⟩ := hR
            have FIN := hidI (kpt_path KQ.out PLX.out ho9 hg9 hf9)
            have ROWS := hidI (kpt_cell KQ.out hg9)
            refine hK.out _ _ (gb_trans (World.grownBy_alloc wq _ _) hg9) (fun hHeld2 => ?_)
            clear ho9 hg9 hf9
            clear hK K
            replace hHeld := hHeld2
            clear hHeld2
            try simp only [Act.put, List.setIfInBounds_toArray, List.set_cons_zero, List.set_cons_succ]
            refine wpAnyT_take (i := 10) (v := ?_) [11, 12] (oi := _) rfl (by kernel_rfl) (by kernel_rfl) (by kernel_rfl) (by kernel_rfl) (fun _ _ _ h => h) (Or.inl ⟨by rfl, ?_⟩) hHeld ?_
            rotate_left
            · intro wS hSw
              go_simp
              all_goals with_reducible rfl
            simp only [Act.put, List.setIfInBounds_toArray, List.set_cons_zero, List.set_cons_succ]
            refine wpAnyT_take (i := 11) (v := ?_) [12] (oi := _) rfl (by kernel_rfl) (by kernel_rfl) (by kernel_rfl) (by kernel_rfl) (fun _ _ _ h => h) (Or.inl ⟨by rfl, ?_⟩) hHeld ?_
            rotate_left
            · intro wS hSw
              go_simp
              all_goals with_reducible rfl
            simp only [Act.put, List.setIfInBounds_toArray, List.set_cons_zero, List.set_cons_succ]
            obtain ⟨n0, m0⟩ := ROWS.out
            rw [HLEN.out] at n0 m0
            have FIN2 := FINAL.out _ _ FIN.out
            rw [HLEN.out] at FIN2
            have FIN3 := hidI FIN2
            clear FIN2
            refine wpAnyT_last (i := 12) (o := _) (by kernel_rfl) (by rfl) rfl (fun K hK => ?_)
            go_simp
            refine hK.out _ _ ?_
            clear hK K
            try simp only [Act.put, List.setIfInBounds_toArray, List.set_cons_zero, List.set_cons_succ]
            refine wpAnyT_done (by kernel_rfl) ?_ _
            clear n0 m0
            go_wp2_with fail
            go_end0
            exact ⟨rfl, FIN3.out⟩
          exact AllReadyT.nil
        exact AllReadyT.nil
end Go.Proofs.YtmdemcjmcnfjmaaGreatDoor

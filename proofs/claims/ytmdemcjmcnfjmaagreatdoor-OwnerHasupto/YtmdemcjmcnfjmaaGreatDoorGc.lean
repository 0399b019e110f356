/- What good and Good of package json do. -/
import Derived.Test.YtmdemcjmcnfjmaaGreatDoorGb
set_option linter.unusedSimpArgs false
set_option linter.unusedVariables false
namespace Go.Proofs.YtmdemcjmcnfjmaaGreatDoor
open Go.RowKit

/- Is it good, with so much depth, and so much room: and the room that is left. -/
def goodS : Nat → V → Int → Bool × Int
  | 0, _, r => (false, r - 1)
  | d + 1, t, r => if r - 1 < 0 ∨ shapedB t = false then (false, r - 1) else t.l.foldl (fun p x => if p.1 then goodS d x p.2 else p) (true, r - 1)
def goodV (t : V) : Bool := (goodS 12 t 120).1

theorem foldl_false {d : Nat} (l : List V) (r : Int) : l.foldl (fun p x => if p.1 then goodS d x p.2 else p) (false, r) = (false, r) := by
  induction l with
  | nil => rfl
  | cons x l ih => simpa using ih

theorem fold_room {d : Nat} (ih : ∀ t r, 0 ≤ r → -1 ≤ (goodS d t r).2 ∧ (goodS d t r).2 ≤ r ∧ ((goodS d t r).1 = true → 0 ≤ (goodS d t r).2)) (l : List V) : ∀ r, 0 ≤ r →
    -1 ≤ (l.foldl (fun p x => if p.1 then goodS d x p.2 else p) (true, r)).2 ∧ (l.foldl (fun p x => if p.1 then goodS d x p.2 else p) (true, r)).2 ≤ r ∧ ((l.foldl (fun p x => if p.1 then goodS d x p.2 else p) (true, r)).1 = true → 0 ≤ (l.foldl (fun p x => if p.1 then goodS d x p.2 else p) (true, r)).2) := by
  induction l with
  | nil => intro r h; exact ⟨by simp only [List.foldl_nil]; omega, by simp, fun _ => h⟩
  | cons x l ihl =>
    intro r h
    rw [List.foldl_cons]
    simp only [if_true]
    obtain ⟨h1, h2, h3⟩ := ih x r h
    cases hb : (goodS d x r).1 with
    | true =>
      have e : goodS d x r = (true, (goodS d x r).2) := by rw [← hb]
      rw [e]
      obtain ⟨g1, g2, g3⟩ := ihl (goodS d x r).2 (h3 hb)
      exact ⟨g1, by omega, g3⟩
    | false =>
      have e : goodS d x r = (false, (goodS d x r).2) := by rw [← hb]
      rw [e, foldl_false]
      exact ⟨h1, h2, by simp⟩
theorem goodS_room (d : Nat) : ∀ t r, 0 ≤ r → -1 ≤ (goodS d t r).2 ∧ (goodS d t r).2 ≤ r ∧ ((goodS d t r).1 = true → 0 ≤ (goodS d t r).2) := by
  induction d with
  | zero => intro t r h; simp only [goodS]; exact ⟨by omega, by omega, by simp⟩
  | succ d ih =>
    intro t r h
    simp only [goodS]
    split
    · exact ⟨by simp only; omega, by simp only; omega, by simp⟩
    · rename_i hc
      obtain ⟨g1, g2, g3⟩ := fold_room ih t.l (r - 1) (by omega)
      exact ⟨g1, by omega, g3⟩

def gfold (d : Nat) (l : List V) (r : Int) : Bool × Int := l.foldl (fun p x => if p.1 then goodS d x p.2 else p) (true, r)
theorem gfold_step {d : Nat} {l : List V} {k : Nat} {x : V} {r p : Int} (hx : l[k]? = some x) (h : gfold d (l.take k) r = (true, p)) : gfold d (l.take (k + 1)) r = goodS d x p := by
  unfold gfold at h ⊢
  rw [List.take_add_one, hx, List.foldl_append, h]; rfl
theorem gfold_false {d : Nat} {l : List V} {k : Nat} {r p : Int} (h : gfold d (l.take k) r = (false, p)) : gfold d l r = (false, p) := by
  unfold gfold at h ⊢
  have e : l = l.take k ++ l.drop k := (List.take_append_drop k l).symm
  rw [e, List.foldl_append, h, foldl_false]

theorem VIs.shape {w : World} {ok : Nat → Prop} {d : Nat} {t : V} {v : Value} (h : VIs w ok d t v) : ∃ (a7 a8 : Option Addr) (c7 c8 : Nat), v = .agg #[.int .i64 t.kind, .int .i64 t.n, .string ⟨t.s.toArray⟩, .slice a7 t.keys.length c7, .slice a8 t.l.length c8] := by
  match d, h with
  | d + 1, h =>
    obtain ⟨ks, ls, e, h1, h2, h3, h4, h5⟩ := h
    obtain ⟨a1, c1, rfl⟩ := h4.form
    obtain ⟨a2, c2, rfl⟩ := h5.form
    exact ⟨_, _, _, _, e⟩
def RoomIs (w : World) (g : Nat) (r : Int) : Prop := w.heap[g]? = some (.cells #[.int .i64 r] 3)
theorem RoomIs.c {w : World} {g : Nat} {r : Int} (h : RoomIs w g r) : w.cell? ⟨g, 0, none⟩ = some (.int .i64 r) ∧ w.frozen? ⟨g, 0, none⟩ = false := by
  unfold RoomIs at h
  exact ⟨by simp [World.cell?, h], by simp [World.frozen?, h]⟩
theorem RoomIs.lt {w : World} {g : Nat} {r : Int} (h : RoomIs w g r) : g < w.heap.size := (Array.getElem?_eq_some_iff.1 h).1

theorem gb_out {a w w' : World} {r : Option Nat} {g : Nat} (h : a.grownBy w r) (hg : w.grownBy w' (some g)) (hag : a.heap.size ≤ g) : a.grownBy w' r :=
  ⟨hg.os.trans h.os, hg.tape.trans h.tape, hg.output.trans h.output, Nat.le_trans h.size hg.size, fun i hi hr => (hg.block i (Nat.lt_of_lt_of_le hi h.size) (fun e => by cases e; omega)).trans (h.block i hi hr)⟩
theorem roomset {w : World} {g : Nat} {r : Int} (h : RoomIs w g r) (r' : Int) (o : Obj) : RoomIs ((w.setCell ⟨g, 0, none⟩ (.int .i64 r')).alloc o) g r' := by
  have h1 : (w.setCell ⟨g, 0, none⟩ (.int .i64 r')).heap[g]? = some (.cells #[.int .i64 r'] 3) := heap_set h 0 _
  exact ((World.grownBy_alloc _ o none).block g (Array.getElem?_eq_some_iff.1 h1).1 (by simp)).trans h1
def GoodC (D : Nat) : Prop := ∀ (w : World) (ok : Nat → Prop) (d : Nat) (t : V) (v : Value) (g : Nat) (r : Int), VIs w ok d t v → (∀ k, ok k → k ≠ g) → RoomIs w g r → 0 ≤ r → r ≤ 120 →
    Calls Tryz.prog 36 #[v, .int .i64 D, .pointer (some ⟨g, 0, none⟩)] w fun e w' => e = .returned (.bool (goodS D t r).1) ∧ RoomIs w' g (goodS D t r).2 ∧ w.grownBy w' (some g)

set_option maxRecDepth 100000 in
set_option maxHeartbeats 4000000 in
theorem good_zero : GoodC 0 := by
  intro w ok d t v g r hv hok hr h0 h1
  obtain ⟨a7, a8, c7, c8, rfl⟩ := hv.shape
  have HR := hidI hr
  have hgl := hr.lt
  have hr2 : RoomIs (w.alloc (.cells #[.int .i64 t.kind, .int .i64 t.n, .string ⟨t.s.toArray⟩, .slice a7 t.keys.length c7, .slice a8 t.l.length c8] 25)) g r := ((World.grownBy_alloc w _ none).block g hgl (by simp)).trans hr
  obtain ⟨c0, f0⟩ := hr2.c
  have HR2 := hidI hr2
  clear hr hv hr2
  go_enter Tryz.func36, Tryz.ntmps36
  go_wp2_with fail
  go_ret
  exact ⟨rfl, roomset HR.out _ _, gb_alloc (gb_set (gb_refl _ _) _ _) _⟩
set_option maxRecDepth 100000 in
set_option maxHeartbeats 4000000 in
theorem good_succ (D : Nat) (hD : D + 1 ≤ 12) (ih : GoodC D) : GoodC (D + 1) := by
  intro w ok d t v g r hv hok hr h0 h1
  obtain ⟨a7, a8, c7, c8, rfl⟩ := hv.shape
  have HV := hidI hv
  have IH := hidI ih
  have HOK := hidI hok
  have hgl := hr.lt
  have hr2 : RoomIs (w.alloc (.cells #[.int .i64 t.kind, .int .i64 t.n, .string ⟨t.s.toArray⟩, .slice a7 t.keys.length c7, .slice a8 t.l.length c8] 25)) g r := ((World.grownBy_alloc w _ none).block g hgl (by simp)).trans hr
  obtain ⟨c0, f0⟩ := hr2.c
  have HR2 := hidI hr2
  have d0 : ((D : Int) + 1 == 0) = false := by rw [beq_eq_false_iff_ne]; omega
  have HR := hidI hr
  have c9 : ∀ o, ((w.setCell ⟨g, 0, none⟩ (.int .i64 (r - 1))).alloc o).cell? ⟨g, 0, none⟩ = some (.int .i64 (r - 1)) := fun o => (roomset hr (r - 1) o).c.1
  have hne : g ≠ w.heap.size := by omega
  clear hr hv hr2 ih hok
  by_cases hr0 : r - 1 < 0
  · have F : Hid (goodS (D + 1) t r = (false, r - 1)) := hidI (by simp [goodS, hr0])
    have hr9 : r - 1 < 0 := hr0
    go_enter Tryz.func36, Tryz.ntmps36
    go_wp2_with fail
    go_ret
    rw [F.out]
    exact ⟨rfl, roomset HR.out _ _, gb_alloc (gb_set (gb_refl _ _) _ _) _⟩
  · have hr9 : ¬ (r - 1 < 0) := hr0
    have W1 : Hid (RoomIs ((w.setCell ⟨g, 0, none⟩ (.int .i64 (r - 1))).alloc (.cells #[.int .i64 t.kind, .int .i64 t.n, .string ⟨t.s.toArray⟩, .slice a7 t.keys.length c7, .slice a8 t.l.length c8] 25)) g (r - 1) ∧ BoxIs ((w.setCell ⟨g, 0, none⟩ (.int .i64 (r - 1))).alloc (.cells #[.int .i64 t.kind, .int .i64 t.n, .string ⟨t.s.toArray⟩, .slice a7 t.keys.length c7, .slice a8 t.l.length c8] 25)) w.heap.size (.int .i64 t.kind) (.int .i64 t.n) (.string ⟨t.s.toArray⟩) (.slice a7 t.keys.length c7) (.slice a8 t.l.length c8) ∧
        VIs ((w.setCell ⟨g, 0, none⟩ (.int .i64 (r - 1))).alloc (.cells #[.int .i64 t.kind, .int .i64 t.n, .string ⟨t.s.toArray⟩, .slice a7 t.keys.length c7, .slice a8 t.l.length c8] 25)) ok d t (.agg #[.int .i64 t.kind, .int .i64 t.n, .string ⟨t.s.toArray⟩, .slice a7 t.keys.length c7, .slice a8 t.l.length c8]) ∧ w.grownBy ((w.setCell ⟨g, 0, none⟩ (.int .i64 (r - 1))).alloc (.cells #[.int .i64 t.kind, .int .i64 t.n, .string ⟨t.s.toArray⟩, .slice a7 t.keys.length c7, .slice a8 t.l.length c8] 25)) (some g)) := by
      have hsz : (w.setCell ⟨g, 0, none⟩ (.int .i64 (r - 1))).heap.size = w.heap.size := by simp [World.setCell]
      have ga : w.grownBy ((w.setCell ⟨g, 0, none⟩ (.int .i64 (r - 1))).alloc (.cells #[.int .i64 t.kind, .int .i64 t.n, .string ⟨t.s.toArray⟩, .slice a7 t.keys.length c7, .slice a8 t.l.length c8] 25)) (some g) := gb_alloc (gb_set (gb_refl _ _) _ _) _
      refine ⟨roomset HR.out _ _, ?_, HV.out.grown ga (fun k hk e => by cases e; exact HOK.out _ hk rfl), ga⟩
      have := heap_alloc_new (w.setCell ⟨g, 0, none⟩ (.int .i64 (r - 1))) (.cells #[.int .i64 t.kind, .int .i64 t.n, .string ⟨t.s.toArray⟩, .slice a7 t.keys.length c7, .slice a8 t.l.length c8] 25)
      rw [hsz] at this
      exact this
    obtain ⟨w1, hw1⟩ : ∃ w1, w1 = (w.setCell ⟨g, 0, none⟩ (.int .i64 (r - 1))).alloc (.cells #[.int .i64 t.kind, .int .i64 t.n, .string ⟨t.s.toArray⟩, .slice a7 t.keys.length c7, .slice a8 t.l.length c8] 25) := ⟨_, rfl⟩
    cases hsh : shapedB t with
    | false =>
      have F : Hid (goodS (D + 1) t r = (false, r - 1)) := hidI (by simp [goodS, hsh])
      have HSH := hidI hsh
      clear hsh
      go_enter Tryz.func36, Tryz.ntmps36
      go_wp2_with fail
      rw [← hw1] at W1 ⊢
      refine (shaped_at _ ok d t _ (by exact W1.out.2.2.1)).mono ?_
      rintro e w2 ⟨rfl, hb2⟩
      rw [HSH.out]
      have G2 : Hid (RoomIs w2 g (r - 1) ∧ w.grownBy w2 (some g)) := ⟨(hb2.block g W1.out.1.lt).trans W1.out.1, gb_trans W1.out.2.2.2 (gb_below hb2)⟩
      clear hb2 hw1
      go_wp2_with fail
      go_ret
      rw [F.out]
      exact ⟨rfl, G2.out⟩
    | true =>
      have F : Hid (goodS (D + 1) t r = gfold D t.l (r - 1)) := hidI (by simp [goodS, hsh, hr0, gfold])
      have HSH := hidI hsh
      clear hsh
      go_enter Tryz.func36, Tryz.ntmps36
      go_wp2_with fail
      rw [← hw1] at W1 ⊢
      refine (shaped_at _ ok d t _ (by exact W1.out.2.2.1)).mono ?_
      rintro e w2 ⟨rfl, hb2⟩
      rw [HSH.out]
      have G2 : Hid (RoomIs w2 g (r - 1) ∧ w.grownBy w2 (some g) ∧ VIs w2 ok d t (.agg #[.int .i64 t.kind, .int .i64 t.n, .string ⟨t.s.toArray⟩, .slice a7 t.keys.length c7, .slice a8 t.l.length c8])) := ⟨(hb2.block g W1.out.1.lt).trans W1.out.1, gb_trans W1.out.2.2.2 (gb_below hb2), W1.out.2.2.1.bel hb2⟩
      have q4 := (box_bel hb2 W1.out.2.1).c.2.2.2.2.1
      obtain ⟨rc, rf⟩ := G2.out.1.c
      have l2 : t.l.length ≤ maxLen := by
        have hv := HV.out
        match d, hv with
        | d + 1, hv => obtain ⟨ks, ls, e, h1, h2, h3, h4, h5⟩ := hv; exact h5.1
      unfold maxLen at l2
      clear hb2 hw1 c0 f0
      go_wp2_with fail
      go_loopg [30] t.l.length (fun gk i wr => ∃ (k : Nat) (p : Int), k ≤ t.l.length ∧ gk = t.l.length - k ∧ i = .int .i64 k ∧ gfold D (t.l.take k) (r - 1) = (true, p) ∧ 0 ≤ p ∧ p ≤ 120 ∧ RoomIs wr g p ∧ w.grownBy wr (some g) ∧ VIs wr ok d t (.agg #[.int .i64 t.kind, .int .i64 t.n, .string ⟨t.s.toArray⟩, .slice a7 t.keys.length c7, .slice a8 t.l.length c8]))
      case atStart => exact ⟨0, r - 1, Nat.zero_le _, rfl, rfl, rfl, by omega, by omega, G2.out⟩
      case round =>
        obtain ⟨k, p, hk, hgk, rfl, hf, hp0, hp1, hrm, hg, hvr⟩ := hrel
        have A : Hid (gk = t.l.length - k ∧ gfold D (t.l.take k) (r - 1) = (true, p) ∧ RoomIs wr g p ∧ w.grownBy wr (some g) ∧ VIs wr ok d t (.agg #[.int .i64 t.kind, .int .i64 t.n, .string ⟨t.s.toArray⟩, .slice a7 t.keys.length c7, .slice a8 t.l.length c8])) := ⟨hgk, hf, hrm, hg, hvr⟩
        clear hgk hf hrm hg rc rf q4
        by_cases hlt : k < t.l.length
        · match d, hvr with
          | d + 1, hvr =>
            obtain ⟨ks, ls, e, -, -, -, -, h5⟩ := hvr
            simp only [Value.agg.injEq, Array.mk.injEq, List.cons.injEq, and_true] at e
            obtain ⟨-, -, -, -, rfl⟩ := e
            obtain ⟨_, h5⟩ := h5
            rcases h5 with ⟨e, _⟩ | ⟨b, off, c, hls, hc1, hc2, hcs⟩
            · rw [e] at hlt; simp at hlt
            simp only [Value.slice.injEq] at hls
            obtain ⟨rfl, -, rfl⟩ := hls
            obtain ⟨v0, v1, v2, v3, v4, g', g0, g1, g2, g3, g4, g5⟩ := hcs k t.l[k] (List.getElem?_eq_getElem hlt)
            have G5 := hidI g5
            obtain ⟨rfl, rfl, rfl, ⟨a5, c5, rfl⟩, ⟨a6, c6, rfl⟩⟩ := g5.agg
            clear hcs g5
            unfold maxLen at hc2
            go_wp2_with fail
            refine (IH.out _ ok d t.l[k] _ g p (by exact G5.out.bel (bel_alloc _ _)) HOK.out (by exact ((World.grownBy_alloc wr _ none).block g A.out.2.2.1.lt (by simp)).trans A.out.2.2.1) hp0 hp1).mono ?_
            rintro e w3 ⟨rfl, hr3, hg3⟩
            have hst := gfold_step (List.getElem?_eq_getElem hlt) A.out.2.1
            have hrm := goodS_room D t.l[k] p hp0
            have gg : wr.grownBy w3 (some g) := gb_trans (World.grownBy_alloc wr _ _) hg3
            have C : Hid (gfold D (t.l.take (k + 1)) (r - 1) = goodS D t.l[k] p ∧ RoomIs w3 g (goodS D t.l[k] p).2 ∧ wr.grownBy w3 (some g)) := ⟨hst, hr3, gg⟩
            clear hst hr3 hg3 gg
            cases hb : (goodS D t.l[k] p).1 with
            | true =>
              have HB := hidI hb
              have HRM := hidI hrm
              clear hb hrm
              go_wp2_with fail
              go_roundg (t.l.length - (k + 1))
              case measure => rw [A.out.1]; omega
              case rel =>
                obtain ⟨q1, q2, q3⟩ := HRM.out
                refine ⟨k + 1, (goodS D t.l[k] p).2, by omega, rfl, by go_num, by rw [C.out.1, ← HB.out], q3 HB.out, by omega, C.out.2.1, gb_trans A.out.2.2.2.1 C.out.2.2, ?_⟩
                exact A.out.2.2.2.2.grown C.out.2.2 (fun j hj e => by cases e; exact HOK.out _ hj rfl)
            | false =>
              have HB := hidI hb
              clear hb hrm
              go_wp2_with fail
              go_ret
              have e9 : goodS D t.l[k] p = (false, (goodS D t.l[k] p).2) := by rw [← HB.out]
              have e8 : gfold D t.l (r - 1) = goodS D t.l[k] p := by
                have := C.out.1
                rw [e9] at this
                rw [e9, gfold_false this]
              rw [F.out, e8, HB.out]
              exact ⟨rfl, C.out.2.1, gb_trans A.out.2.2.2.1 C.out.2.2⟩
        · have hke : k = t.l.length := by omega
          clear hvr
          go_wp2_with fail
          go_ret
          have hf := A.out.2.1
          rw [hke, List.take_length] at hf
          rw [F.out, hf]
          exact ⟨rfl, A.out.2.2.1, A.out.2.2.2.1⟩
theorem good_all (D : Nat) : D ≤ 12 → GoodC D := by
  induction D with
  | zero => intro _; exact good_zero
  | succ D ih => intro h; exact good_succ D h (ih (by omega))

set_option maxRecDepth 100000 in
set_option maxHeartbeats 4000000 in
theorem Good_at (w : World) (ok : Nat → Prop) (d : Nat) (t : V) (v : Value) (h : VIs w ok d t v) :
    Calls Tryz.prog 13 #[v] w fun e w' => e = .returned (.bool (goodV t)) ∧ Below w.heap.size w w' := by
  obtain ⟨a7, a8, c7, c8, rfl⟩ := h.shape
  have HV := hidI h
  clear h
  go_enter Tryz.func13, Tryz.ntmps13
  go_wp2_with fail
  refine (good_all 12 (by omega) _ (fun k => ok k ∧ k < w.heap.size) d t _ (w.heap.size + 1) 120 (by exact HV.out.below.bel (bel_trans (bel_alloc _ _) (bel_alloc _ _))) (by intro k hk; omega) (by exact h2b w _ _) (by omega) (by omega)).mono ?_
  rintro e w2 ⟨rfl, hr2, hg2⟩
  go_wp2_with fail
  go_ret
  exact ⟨rfl, gb_none (gb_out (gb_alloc (gb_alloc (gb_refl _ _) _) _) hg2 (by omega))⟩
end Go.Proofs.YtmdemcjmcnfjmaaGreatDoor

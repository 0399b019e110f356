/- What member of json's reader does, if value and With do what is said of them. -/
import Derived.Test.YtmdemcjmcnfjmaaGreatDoorGNl
import Derived.Test.YtmdemcjmcnfjmaaGreatDoorGNe
import Derived.Test.YtmdemcjmcnfjmaaGreatDoorGOn
import Derived.Test.YtmdemcjmcnfjmaaGreatDoorCc
import Derived.Test.YtmdemcjmcnfjmaaGreatDoorRf
import Derived.Deep.RegionLaw
import Derived.Deep.DeepCutAuto
import Derived.Deep.CutBlock
/- What the function that Apply of package owner hands to kept answers. -/
set_option linter.unusedSimpArgs false
set_option linter.unusedVariables false
namespace Go.Proofs.YtmdemcjmcnfjmaaGreatDoor
open Go.RowKit

set_option maxRecDepth 100000 in
set_option maxHeartbeats 4000000 in
theorem apply1_at (W : World) (ok ok' : Nat → Prop) (who : List UInt8) (want t : V) (L : List (List UInt8)) (g2 g9 g4 : Nat) (a1 a2 a3 b1 b2 : Option Addr) (c1 c2 c3 d1 d2 : Nat) (n p : List UInt8)
    (hc : CapI W ok ok' who want t L g2 g9 g4 a1 a2 a3 b1 b2 c1 c2 c3 d1 d2) (hp : p.length ≤ 140737488351232) :
    Calls Tryz.prog 24 #[.string ⟨n.toArray⟩, .string ⟨p.toArray⟩, .pointer (some ⟨g2, 0, none⟩), .pointer (some ⟨g9, 0, none⟩), .pointer (some ⟨g4, 0, none⟩)] W fun e w' => e = .returned (.bool (n != who && !blockedF want t L p)) ∧ Below W.heap.size W w' := by
  have BK := hidI (hc.blocked p hp)
  have q9 := hc.who
  obtain ⟨x0, x1, x2, x3, x4, x5⟩ := box6 hc.wish
  obtain ⟨y0, y1, y2, y3, y4, -⟩ := hc.val.c
  clear hc
  generalize blockedF want t L p = o at BK ⊢
  by_cases hn : n = who
  · have R : Hid ((n != who && !o) = false) := hidI (by simp [hn])
    subst hn
    go_enter Tryz.func24, Tryz.ntmps24
    go_wp2_with fail
    go_ret
    exact ⟨by rw [R.out]; first | done | rfl | simp, Below.refl _ _⟩
  · have e9 : (n == who) = false := by simpa using hn
    have R : Hid ((n != who && !o) = !o) := hidI (by simp [hn])
    go_enter Tryz.func24, Tryz.ntmps24
    go_wp2_with (go_at_call 25; refine BK.out.mono ?_; rintro e w1 ⟨rfl, hb⟩; have B1 := hidI hb; clear hb)
    go_ret
    exact ⟨by rw [R.out]; first | done | rfl | simp, B1.out⟩
theorem apply1_enters : ∀ args w, (callFunc 24 args).run Tryz.prog w = .ok (.enter 24 args) w := enters_of Tryz.func24 (by kernel_rfl) rfl
end Go.Proofs.YtmdemcjmcnfjmaaGreatDoor

/- Apply of package owner: what is not good. -/
set_option linter.unusedSimpArgs false
set_option linter.unusedVariables false
namespace Go.Proofs.YtmdemcjmcnfjmaaGreatDoor
open Go.RowKit

/- What Apply of package owner answers. -/
def ApplyIs (w w' : World) (ok : Nat → Prop) (A : V × List Own × List (List UInt8 × List UInt8) × Int) (e : Ending) : Prop := ∃ r ro rc, e = .returned (.tuple #[r, ro, rc, .int .i64 A.2.2.2]) ∧ In w' (okN ok w.heap.size) A.1 r ∧ OwnsAre w' (okN ok w.heap.size) A.2.1 ro ∧ w'.ownsRow w.heap.size 85 2 rc A.2.2.1.length (cCells A.2.2.1) ∧ Below w.heap.size w w'
theorem OwnsAre.belB {w w' : World} {ok : Nat → Prop} {B : Nat} {xs : List Own} {v : Value} (h : OwnsAre w ok xs v) (hok : ∀ k, ok k → k < B) (hb : Below B w w') : OwnsAre w' ok xs v :=
  h.imp fun a x h1 h2 => ⟨h1, (World.cell?_of_block (hb.block _ (hok _ h1))).trans h2⟩
theorem h4z (w : World) (o1 o2 o3 o4 : Obj) {k : Nat} {o : Obj} (h : (((w.alloc o1).alloc o2).alloc o3).heap[k]? = some o) : ((((w.alloc o1).alloc o2).alloc o3).alloc o4).heap[k]? = some o := blk_bel (bel_alloc _ _) h
theorem h4dO (w : World) (o1 o2 o3 o4 : Obj) : ((((w.alloc o1).alloc o2).alloc o3).alloc o4).heap[w.heap.size + 3]? = some o4 := by
  have := heap_alloc_new (((w.alloc o1).alloc o2).alloc o3) o4
  simpa using this
set_option maxRecDepth 100000 in
set_option maxHeartbeats 4000000 in
theorem apply_bad1 (w : World) (ok : Nat → Prop) (t want : V) (l : List Own) (who : List UInt8) (force : Bool) (vt vl vw : Value) (ht : In w ok t vt) (hl : OwnsAre w ok l vl) (hw : In w ok want vw) (hM : GlobM w) (hN : (allOf l).length ≤ 4000000) (hP : ∀ o ∈ l, ∀ x ∈ o.paths, x.length ≤ 140737488351232) (hwho : who.length ≤ 9223372036854775807) (hg1 : (decide (t.kind = 5) && goodV t) = false) :
    Calls Tryz.prog 6 #[vt, vl, .string ⟨who.toArray⟩, vw, .bool force] w fun e w' => ApplyIs w w' ok (applyF t l who want force) e := by
  have R : Hid (applyF t l who want force = (t, l, [], 1)) := hidI (by unfold applyF; rw [if_neg (by intro h; obtain ⟨⟨h1, h2⟩, ⟨h3, h4⟩, h5, h6⟩ := h; simp [h1, h2] at hg1)])
  have HT := hidI ht.low
  have HL := hidI hl.low
  have HW := hidI hw.low
  have HM := hidI hM
  have HN := hidI hN
  have HP := hidI hP
  obtain ⟨b1, b2, d1, d2, rfl⟩ := ht.form
  obtain ⟨a1, a2, c1, c2, rfl⟩ := hw.form
  obtain ⟨la, lc, rfl⟩ := hl.form
  have ll := hl.1
  unfold maxLen at ll
  clear ht hl hw hM hN hP
  obtain ⟨W3, hW3⟩ : ∃ W, W = (((w.alloc (.cells #[.int .i64 t.kind, .int .i64 t.n, .string ⟨t.s.toArray⟩, .slice b1 t.keys.length d1, .slice b2 t.l.length d2] 25)).alloc (.cells #[.string ⟨who.toArray⟩] 9)).alloc (.cells #[.int .i64 want.kind, .int .i64 want.n, .string ⟨want.s.toArray⟩, .slice a1 want.keys.length c1, .slice a2 want.l.length c2] 25)).alloc (.cells #[.int .i64 0, .int .i64 0, .string ⟨#[]⟩, .slice none 0 0, .slice none 0 0] 25) := ⟨_, rfl⟩
  have BW : Hid (Below w.heap.size w W3) := hidI (by rw [hW3]; exact bel_trans (bel_trans (bel_trans (bel_alloc _ _) (bel_alloc _ _)) (bel_alloc _ _)) (bel_alloc _ _))
  have X1 : Hid (BoxIs W3 w.heap.size (.int .i64 t.kind) (.int .i64 t.n) (.string ⟨t.s.toArray⟩) (.slice b1 t.keys.length d1) (.slice b2 t.l.length d2)) := hidI (by rw [hW3]; exact h4z _ _ _ _ _ (h3a _ _ _ _))
  have X2 : Hid (W3.heap[w.heap.size + 1]? = some (.cells #[.string ⟨who.toArray⟩] 9)) := hidI (by rw [hW3]; exact h4z _ _ _ _ _ (h3b _ _ _ _))
  have X3 : Hid (BoxIs W3 (w.heap.size + 2) (.int .i64 want.kind) (.int .i64 want.n) (.string ⟨want.s.toArray⟩) (.slice a1 want.keys.length c1) (.slice a2 want.l.length c2)) := hidI (by rw [hW3]; exact h4z _ _ _ _ _ (h3c _ _ _ _))
  have X4 : Hid (BoxIs W3 (w.heap.size + 3) (.int .i64 0) (.int .i64 0) (.string ⟨#[]⟩) (.slice none 0 0) (.slice none 0 0)) := hidI (by rw [hW3]; exact h4dO _ _ _ _ _)
  have HW3 := hidI hW3
  clear hW3
  have G1 : Hid (∀ W, Below w.heap.size w W → Calls Tryz.prog 19 #[.agg #[.int .i64 t.kind, .int .i64 t.n, .string ⟨t.s.toArray⟩, .slice b1 t.keys.length d1, .slice b2 t.l.length d2]] W fun e w' => e = .returned (.bool (decide (t.kind = 5) && goodV t)) ∧ Below W.heap.size W w') := hidI (fun W hW => goodObject_at W _ t _ (HT.out.bel hW))
  have G2 : Hid (∀ W, Below w.heap.size w W → Calls Tryz.prog 19 #[.agg #[.int .i64 want.kind, .int .i64 want.n, .string ⟨want.s.toArray⟩, .slice a1 want.keys.length c1, .slice a2 want.l.length c2]] W fun e w' => e = .returned (.bool (decide (want.kind = 5) && goodV want)) ∧ Below W.heap.size W w') := hidI (fun W hW => goodObject_at W _ want _ (HW.out.bel hW))
  have G3 : Hid (∀ W, Below w.heap.size w W → Calls Tryz.prog 12 #[.slice la l.length lc] W fun e w' => e = .returned (.bool (goodOs l)) ∧ Below W.heap.size W w') := hidI (fun W hW => goodOwners_at W _ l _ (HL.out.bel hW) HP.out (HM.out.bel hW))
  have G4 : Hid (∀ W, Below w.heap.size w W → Calls Tryz.prog 20 #[.string ⟨who.toArray⟩] W fun e w' => e = .returned (.bool (namedB who)) ∧ Below W.heap.size W w') := hidI (fun W _ => (named_at W who hwho).mono fun e w' h => ⟨h.1, h.2 ▸ Below.refl _ _⟩)
  rw [hg1] at G1
  clear hg1
  obtain ⟨o0, o1, o2, o3, o4, -⟩ := X1.out.c
  go_enter Tryz.func6, Tryz.ntmps6
  go_upto_region 1 with fail
  rw [← HW3.out]
  go_upto_region 2 with (first
      | (go_at_call 19; refine (G1.out _ BW.out).mono ?_; rintro e w1 ⟨rfl, hb⟩; have B1 := hidI (bel_trans BW.out hb); have Y1 := hidI hb; clear hb; skip))
  clear o0 o1 o2 o3 o4
  obtain ⟨v0, v1, v2, v3, v4, -⟩ := (box_bel Y1.out X1.out).c
  obtain ⟨n0, n1, n2, n3, n4, m0, m1, m2, m3, m4⟩ := (box_bel Y1.out X4.out).c
  have ZB := hidI ((box_bel Y1.out X4.out).set (.int .i64 t.kind) (.int .i64 t.n) (.string ⟨t.s.toArray⟩) (.slice b1 t.keys.length d1) (.slice b2 t.l.length d2))
  have BF := hidI (bel_set5 (g := w.heap.size + 3) B1.out (by omega) (.int .i64 t.kind) (.int .i64 t.n) (.string ⟨t.s.toArray⟩) (.slice b1 t.keys.length d1) (.slice b2 t.l.length d2))
  go_wp2_with fail
  obtain ⟨z0, z1, z2, z3, z4, -⟩ := ZB.out.c
  refine bodyPost_ret (v := .tuple #[.agg #[.int .i64 t.kind, .int .i64 t.n, .string ⟨t.s.toArray⟩, .slice b1 t.keys.length d1, .slice b2 t.l.length d2], .slice la l.length lc, .slice none 0 0, .int .i64 1]) ?_ rfl ?_
  · simp only [set5] at z0 z1 z2 z3 z4
    simp [results, Tryz.results6, go_sem, z0, z1, z2, z3, z4]
  · rw [ApplyIs, R.out]
    exact ⟨_, _, _, rfl, (HT.out.belB (fun k h => h.2) BF.out).weak fun k h => .inl h.1, (HL.out.belB (fun k h => h.2) BF.out).weak fun k h => .inl h.1, World.ownsRow_nil _ _ _ _, BF.out⟩
set_option maxRecDepth 100000 in
set_option maxHeartbeats 4000000 in
theorem apply_bad2 (w : World) (ok : Nat → Prop) (t want : V) (l : List Own) (who : List UInt8) (force : Bool) (vt vl vw : Value) (ht : In w ok t vt) (hl : OwnsAre w ok l vl) (hw : In w ok want vw) (hM : GlobM w) (hN : (allOf l).length ≤ 4000000) (hP : ∀ o ∈ l, ∀ x ∈ o.paths, x.length ≤ 140737488351232) (hwho : who.length ≤ 9223372036854775807) (hg1 : (decide (t.kind = 5) && goodV t) = true) (hg2 : (decide (want.kind = 5) && goodV want) = false) :
    Calls Tryz.prog 6 #[vt, vl, .string ⟨who.toArray⟩, vw, .bool force] w fun e w' => ApplyIs w w' ok (applyF t l who want force) e := by
  have R : Hid (applyF t l who want force = (t, l, [], 1)) := hidI (by unfold applyF; rw [if_neg (by intro h; obtain ⟨⟨h1, h2⟩, ⟨h3, h4⟩, h5, h6⟩ := h; simp [h3, h4] at hg2)])
  have HT := hidI ht.low
  have HL := hidI hl.low
  have HW := hidI hw.low
  have HM := hidI hM
  have HN := hidI hN
  have HP := hidI hP
  obtain ⟨b1, b2, d1, d2, rfl⟩ := ht.form
  obtain ⟨a1, a2, c1, c2, rfl⟩ := hw.form
  obtain ⟨la, lc, rfl⟩ := hl.form
  have ll := hl.1
  unfold maxLen at ll
  clear ht hl hw hM hN hP
  obtain ⟨W3, hW3⟩ : ∃ W, W = (((w.alloc (.cells #[.int .i64 t.kind, .int .i64 t.n, .string ⟨t.s.toArray⟩, .slice b1 t.keys.length d1, .slice b2 t.l.length d2] 25)).alloc (.cells #[.string ⟨who.toArray⟩] 9)).alloc (.cells #[.int .i64 want.kind, .int .i64 want.n, .string ⟨want.s.toArray⟩, .slice a1 want.keys.length c1, .slice a2 want.l.length c2] 25)).alloc (.cells #[.int .i64 0, .int .i64 0, .string ⟨#[]⟩, .slice none 0 0, .slice none 0 0] 25) := ⟨_, rfl⟩
  have BW : Hid (Below w.heap.size w W3) := hidI (by rw [hW3]; exact bel_trans (bel_trans (bel_trans (bel_alloc _ _) (bel_alloc _ _)) (bel_alloc _ _)) (bel_alloc _ _))
  have X1 : Hid (BoxIs W3 w.heap.size (.int .i64 t.kind) (.int .i64 t.n) (.string ⟨t.s.toArray⟩) (.slice b1 t.keys.length d1) (.slice b2 t.l.length d2)) := hidI (by rw [hW3]; exact h4z _ _ _ _ _ (h3a _ _ _ _))
  have X2 : Hid (W3.heap[w.heap.size + 1]? = some (.cells #[.string ⟨who.toArray⟩] 9)) := hidI (by rw [hW3]; exact h4z _ _ _ _ _ (h3b _ _ _ _))
  have X3 : Hid (BoxIs W3 (w.heap.size + 2) (.int .i64 want.kind) (.int .i64 want.n) (.string ⟨want.s.toArray⟩) (.slice a1 want.keys.length c1) (.slice a2 want.l.length c2)) := hidI (by rw [hW3]; exact h4z _ _ _ _ _ (h3c _ _ _ _))
  have X4 : Hid (BoxIs W3 (w.heap.size + 3) (.int .i64 0) (.int .i64 0) (.string ⟨#[]⟩) (.slice none 0 0) (.slice none 0 0)) := hidI (by rw [hW3]; exact h4dO _ _ _ _ _)
  have HW3 := hidI hW3
  clear hW3
  have G1 : Hid (∀ W, Below w.heap.size w W → Calls Tryz.prog 19 #[.agg #[.int .i64 t.kind, .int .i64 t.n, .string ⟨t.s.toArray⟩, .slice b1 t.keys.length d1, .slice b2 t.l.length d2]] W fun e w' => e = .returned (.bool (decide (t.kind = 5) && goodV t)) ∧ Below W.heap.size W w') := hidI (fun W hW => goodObject_at W _ t _ (HT.out.bel hW))
  have G2 : Hid (∀ W, Below w.heap.size w W → Calls Tryz.prog 19 #[.agg #[.int .i64 want.kind, .int .i64 want.n, .string ⟨want.s.toArray⟩, .slice a1 want.keys.length c1, .slice a2 want.l.length c2]] W fun e w' => e = .returned (.bool (decide (want.kind = 5) && goodV want)) ∧ Below W.heap.size W w') := hidI (fun W hW => goodObject_at W _ want _ (HW.out.bel hW))
  have G3 : Hid (∀ W, Below w.heap.size w W → Calls Tryz.prog 12 #[.slice la l.length lc] W fun e w' => e = .returned (.bool (goodOs l)) ∧ Below W.heap.size W w') := hidI (fun W hW => goodOwners_at W _ l _ (HL.out.bel hW) HP.out (HM.out.bel hW))
  have G4 : Hid (∀ W, Below w.heap.size w W → Calls Tryz.prog 20 #[.string ⟨who.toArray⟩] W fun e w' => e = .returned (.bool (namedB who)) ∧ Below W.heap.size W w') := hidI (fun W _ => (named_at W who hwho).mono fun e w' h => ⟨h.1, h.2 ▸ Below.refl _ _⟩)
  rw [hg1] at G1
  rw [hg2] at G2
  clear hg1 hg2
  obtain ⟨o0, o1, o2, o3, o4, -⟩ := X1.out.c
  go_enter Tryz.func6, Tryz.ntmps6
  go_upto_region 1 with fail
  rw [← HW3.out]
  go_upto_region 2 with (first
      | (go_at_call 19; refine (G2.out _ B1.out).mono ?_; rintro e w2 ⟨rfl, hb⟩; have B2 := hidI (bel_trans B1.out hb); have Y2 := hidI (bel_trans Y1.out hb); clear hb; skip)
      | (go_at_call 19; refine (G1.out _ BW.out).mono ?_; rintro e w1 ⟨rfl, hb⟩; have B1 := hidI (bel_trans BW.out hb); have Y1 := hidI hb; clear hb; obtain ⟨p0, p1, p2, p3, p4, -⟩ := (box_bel Y1.out X3.out).c; skip))
  clear o0 o1 o2 o3 o4
  obtain ⟨v0, v1, v2, v3, v4, -⟩ := (box_bel Y2.out X1.out).c
  obtain ⟨n0, n1, n2, n3, n4, m0, m1, m2, m3, m4⟩ := (box_bel Y2.out X4.out).c
  have ZB := hidI ((box_bel Y2.out X4.out).set (.int .i64 t.kind) (.int .i64 t.n) (.string ⟨t.s.toArray⟩) (.slice b1 t.keys.length d1) (.slice b2 t.l.length d2))
  have BF := hidI (bel_set5 (g := w.heap.size + 3) B2.out (by omega) (.int .i64 t.kind) (.int .i64 t.n) (.string ⟨t.s.toArray⟩) (.slice b1 t.keys.length d1) (.slice b2 t.l.length d2))
  go_wp2_with fail
  obtain ⟨z0, z1, z2, z3, z4, -⟩ := ZB.out.c
  refine bodyPost_ret (v := .tuple #[.agg #[.int .i64 t.kind, .int .i64 t.n, .string ⟨t.s.toArray⟩, .slice b1 t.keys.length d1, .slice b2 t.l.length d2], .slice la l.length lc, .slice none 0 0, .int .i64 1]) ?_ rfl ?_
  · simp only [set5] at z0 z1 z2 z3 z4
    simp [results, Tryz.results6, go_sem, z0, z1, z2, z3, z4]
  · rw [ApplyIs, R.out]
    exact ⟨_, _, _, rfl, (HT.out.belB (fun k h => h.2) BF.out).weak fun k h => .inl h.1, (HL.out.belB (fun k h => h.2) BF.out).weak fun k h => .inl h.1, World.ownsRow_nil _ _ _ _, BF.out⟩
set_option maxRecDepth 100000 in
set_option maxHeartbeats 4000000 in
theorem apply_bad3 (w : World) (ok : Nat → Prop) (t want : V) (l : List Own) (who : List UInt8) (force : Bool) (vt vl vw : Value) (ht : In w ok t vt) (hl : OwnsAre w ok l vl) (hw : In w ok want vw) (hM : GlobM w) (hN : (allOf l).length ≤ 4000000) (hP : ∀ o ∈ l, ∀ x ∈ o.paths, x.length ≤ 140737488351232) (hwho : who.length ≤ 9223372036854775807) (hg1 : (decide (t.kind = 5) && goodV t) = true) (hg2 : (decide (want.kind = 5) && goodV want) = true) (hg3 : goodOs l = false) :
    Calls Tryz.prog 6 #[vt, vl, .string ⟨who.toArray⟩, vw, .bool force] w fun e w' => ApplyIs w w' ok (applyF t l who want force) e := by
  have R : Hid (applyF t l who want force = (t, l, [], 1)) := hidI (by unfold applyF; rw [if_neg (by intro h; obtain ⟨⟨h1, h2⟩, ⟨h3, h4⟩, h5, h6⟩ := h; simp [h5] at hg3)])
  have HT := hidI ht.low
  have HL := hidI hl.low
  have HW := hidI hw.low
  have HM := hidI hM
  have HN := hidI hN
  have HP := hidI hP
  obtain ⟨b1, b2, d1, d2, rfl⟩ := ht.form
  obtain ⟨a1, a2, c1, c2, rfl⟩ := hw.form
  obtain ⟨la, lc, rfl⟩ := hl.form
  have ll := hl.1
  unfold maxLen at ll
  clear ht hl hw hM hN hP
  obtain ⟨W3, hW3⟩ : ∃ W, W = (((w.alloc (.cells #[.int .i64 t.kind, .int .i64 t.n, .string ⟨t.s.toArray⟩, .slice b1 t.keys.length d1, .slice b2 t.l.length d2] 25)).alloc (.cells #[.string ⟨who.toArray⟩] 9)).alloc (.cells #[.int .i64 want.kind, .int .i64 want.n, .string ⟨want.s.toArray⟩, .slice a1 want.keys.length c1, .slice a2 want.l.length c2] 25)).alloc (.cells #[.int .i64 0, .int .i64 0, .string ⟨#[]⟩, .slice none 0 0, .slice none 0 0] 25) := ⟨_, rfl⟩
  have BW : Hid (Below w.heap.size w W3) := hidI (by rw [hW3]; exact bel_trans (bel_trans (bel_trans (bel_alloc _ _) (bel_alloc _ _)) (bel_alloc _ _)) (bel_alloc _ _))
  have X1 : Hid (BoxIs W3 w.heap.size (.int .i64 t.kind) (.int .i64 t.n) (.string ⟨t.s.toArray⟩) (.slice b1 t.keys.length d1) (.slice b2 t.l.length d2)) := hidI (by rw [hW3]; exact h4z _ _ _ _ _ (h3a _ _ _ _))
  have X2 : Hid (W3.heap[w.heap.size + 1]? = some (.cells #[.string ⟨who.toArray⟩] 9)) := hidI (by rw [hW3]; exact h4z _ _ _ _ _ (h3b _ _ _ _))
  have X3 : Hid (BoxIs W3 (w.heap.size + 2) (.int .i64 want.kind) (.int .i64 want.n) (.string ⟨want.s.toArray⟩) (.slice a1 want.keys.length c1) (.slice a2 want.l.length c2)) := hidI (by rw [hW3]; exact h4z _ _ _ _ _ (h3c _ _ _ _))
  have X4 : Hid (BoxIs W3 (w.heap.size + 3) (.int .i64 0) (.int .i64 0) (.string ⟨#[]⟩) (.slice none 0 0) (.slice none 0 0)) := hidI (by rw [hW3]; exact h4dO _ _ _ _ _)
  have HW3 := hidI hW3
  clear hW3
  have G1 : Hid (∀ W, Below w.heap.size w W → Calls Tryz.prog 19 #[.agg #[.int .i64 t.kind, .int .i64 t.n, .string ⟨t.s.toArray⟩, .slice b1 t.keys.length d1, .slice b2 t.l.length d2]] W fun e w' => e = .returned (.bool (decide (t.kind = 5) && goodV t)) ∧ Below W.heap.size W w') := hidI (fun W hW => goodObject_at W _ t _ (HT.out.bel hW))
  have G2 : Hid (∀ W, Below w.heap.size w W → Calls Tryz.prog 19 #[.agg #[.int .i64 want.kind, .int .i64 want.n, .string ⟨want.s.toArray⟩, .slice a1 want.keys.length c1, .slice a2 want.l.length c2]] W fun e w' => e = .returned (.bool (decide (want.kind = 5) && goodV want)) ∧ Below W.heap.size W w') := hidI (fun W hW => goodObject_at W _ want _ (HW.out.bel hW))
  have G3 : Hid (∀ W, Below w.heap.size w W → Calls Tryz.prog 12 #[.slice la l.length lc] W fun e w' => e = .returned (.bool (goodOs l)) ∧ Below W.heap.size W w') := hidI (fun W hW => goodOwners_at W _ l _ (HL.out.bel hW) HP.out (HM.out.bel hW))
  have G4 : Hid (∀ W, Below w.heap.size w W → Calls Tryz.prog 20 #[.string ⟨who.toArray⟩] W fun e w' => e = .returned (.bool (namedB who)) ∧ Below W.heap.size W w') := hidI (fun W _ => (named_at W who hwho).mono fun e w' h => ⟨h.1, h.2 ▸ Below.refl _ _⟩)
  rw [hg1] at G1
  rw [hg2] at G2
  rw [hg3] at G3
  clear hg1 hg2 hg3
  obtain ⟨o0, o1, o2, o3, o4, -⟩ := X1.out.c
  go_enter Tryz.func6, Tryz.ntmps6
  go_upto_region 1 with fail
  rw [← HW3.out]
  go_upto_region 2 with (first
      | (go_at_call 12; refine (G3.out _ B2.out).mono ?_; rintro e w3 ⟨rfl, hb⟩; have B3 := hidI (bel_trans B2.out hb); have Y3 := hidI (bel_trans Y2.out hb); clear hb; skip)
      | (go_at_call 19; refine (G2.out _ B1.out).mono ?_; rintro e w2 ⟨rfl, hb⟩; have B2 := hidI (bel_trans B1.out hb); have Y2 := hidI (bel_trans Y1.out hb); clear hb; skip)
      | (go_at_call 19; refine (G1.out _ BW.out).mono ?_; rintro e w1 ⟨rfl, hb⟩; have B1 := hidI (bel_trans BW.out hb); have Y1 := hidI hb; clear hb; obtain ⟨p0, p1, p2, p3, p4, -⟩ := (box_bel Y1.out X3.out).c; skip))
  clear o0 o1 o2 o3 o4
  obtain ⟨v0, v1, v2, v3, v4, -⟩ := (box_bel Y3.out X1.out).c
  obtain ⟨n0, n1, n2, n3, n4, m0, m1, m2, m3, m4⟩ := (box_bel Y3.out X4.out).c
  have ZB := hidI ((box_bel Y3.out X4.out).set (.int .i64 t.kind) (.int .i64 t.n) (.string ⟨t.s.toArray⟩) (.slice b1 t.keys.length d1) (.slice b2 t.l.length d2))
  have BF := hidI (bel_set5 (g := w.heap.size + 3) B3.out (by omega) (.int .i64 t.kind) (.int .i64 t.n) (.string ⟨t.s.toArray⟩) (.slice b1 t.keys.length d1) (.slice b2 t.l.length d2))
  go_wp2_with fail
  obtain ⟨z0, z1, z2, z3, z4, -⟩ := ZB.out.c
  refine bodyPost_ret (v := .tuple #[.agg #[.int .i64 t.kind, .int .i64 t.n, .string ⟨t.s.toArray⟩, .slice b1 t.keys.length d1, .slice b2 t.l.length d2], .slice la l.length lc, .slice none 0 0, .int .i64 1]) ?_ rfl ?_
  · simp only [set5] at z0 z1 z2 z3 z4
    simp [results, Tryz.results6, go_sem, z0, z1, z2, z3, z4]
  · rw [ApplyIs, R.out]
    exact ⟨_, _, _, rfl, (HT.out.belB (fun k h => h.2) BF.out).weak fun k h => .inl h.1, (HL.out.belB (fun k h => h.2) BF.out).weak fun k h => .inl h.1, World.ownsRow_nil _ _ _ _, BF.out⟩
set_option maxRecDepth 100000 in
set_option maxHeartbeats 4000000 in
theorem apply_bad4 (w : World) (ok : Nat → Prop) (t want : V) (l : List Own) (who : List UInt8) (force : Bool) (vt vl vw : Value) (ht : In w ok t vt) (hl : OwnsAre w ok l vl) (hw : In w ok want vw) (hM : GlobM w) (hN : (allOf l).length ≤ 4000000) (hP : ∀ o ∈ l, ∀ x ∈ o.paths, x.length ≤ 140737488351232) (hwho : who.length ≤ 9223372036854775807) (hg1 : (decide (t.kind = 5) && goodV t) = true) (hg2 : (decide (want.kind = 5) && goodV want) = true) (hg3 : goodOs l = true) (hg4 : namedB who = false) :
    Calls Tryz.prog 6 #[vt, vl, .string ⟨who.toArray⟩, vw, .bool force] w fun e w' => ApplyIs w w' ok (applyF t l who want force) e := by
  have R : Hid (applyF t l who want force = (t, l, [], 1)) := hidI (by unfold applyF; rw [if_neg (by intro h; obtain ⟨⟨h1, h2⟩, ⟨h3, h4⟩, h5, h6⟩ := h; simp [h6] at hg4)])
  have HT := hidI ht.low
  have HL := hidI hl.low
  have HW := hidI hw.low
  have HM := hidI hM
  have HN := hidI hN
  have HP := hidI hP
  obtain ⟨b1, b2, d1, d2, rfl⟩ := ht.form
  obtain ⟨a1, a2, c1, c2, rfl⟩ := hw.form
  obtain ⟨la, lc, rfl⟩ := hl.form
  have ll := hl.1
  unfold maxLen at ll
  clear ht hl hw hM hN hP
  obtain ⟨W3, hW3⟩ : ∃ W, W = (((w.alloc (.cells #[.int .i64 t.kind, .int .i64 t.n, .string ⟨t.s.toArray⟩, .slice b1 t.keys.length d1, .slice b2 t.l.length d2] 25)).alloc (.cells #[.string ⟨who.toArray⟩] 9)).alloc (.cells #[.int .i64 want.kind, .int .i64 want.n, .string ⟨want.s.toArray⟩, .slice a1 want.keys.length c1, .slice a2 want.l.length c2] 25)).alloc (.cells #[.int .i64 0, .int .i64 0, .string ⟨#[]⟩, .slice none 0 0, .slice none 0 0] 25) := ⟨_, rfl⟩
  have BW : Hid (Below w.heap.size w W3) := hidI (by rw [hW3]; exact bel_trans (bel_trans (bel_trans (bel_alloc _ _) (bel_alloc _ _)) (bel_alloc _ _)) (bel_alloc _ _))
  have X1 : Hid (BoxIs W3 w.heap.size (.int .i64 t.kind) (.int .i64 t.n) (.string ⟨t.s.toArray⟩) (.slice b1 t.keys.length d1) (.slice b2 t.l.length d2)) := hidI (by rw [hW3]; exact h4z _ _ _ _ _ (h3a _ _ _ _))
  have X2 : Hid (W3.heap[w.heap.size + 1]? = some (.cells #[.string ⟨who.toArray⟩] 9)) := hidI (by rw [hW3]; exact h4z _ _ _ _ _ (h3b _ _ _ _))
  have X3 : Hid (BoxIs W3 (w.heap.size + 2) (.int .i64 want.kind) (.int .i64 want.n) (.string ⟨want.s.toArray⟩) (.slice a1 want.keys.length c1) (.slice a2 want.l.length c2)) := hidI (by rw [hW3]; exact h4z _ _ _ _ _ (h3c _ _ _ _))
  have X4 : Hid (BoxIs W3 (w.heap.size + 3) (.int .i64 0) (.int .i64 0) (.string ⟨#[]⟩) (.slice none 0 0) (.slice none 0 0)) := hidI (by rw [hW3]; exact h4dO _ _ _ _ _)
  have HW3 := hidI hW3
  clear hW3
  have G1 : Hid (∀ W, Below w.heap.size w W → Calls Tryz.prog 19 #[.agg #[.int .i64 t.kind, .int .i64 t.n, .string ⟨t.s.toArray⟩, .slice b1 t.keys.length d1, .slice b2 t.l.length d2]] W fun e w' => e = .returned (.bool (decide (t.kind = 5) && goodV t)) ∧ Below W.heap.size W w') := hidI (fun W hW => goodObject_at W _ t _ (HT.out.bel hW))
  have G2 : Hid (∀ W, Below w.heap.size w W → Calls Tryz.prog 19 #[.agg #[.int .i64 want.kind, .int .i64 want.n, .string ⟨want.s.toArray⟩, .slice a1 want.keys.length c1, .slice a2 want.l.length c2]] W fun e w' => e = .returned (.bool (decide (want.kind = 5) && goodV want)) ∧ Below W.heap.size W w') := hidI (fun W hW => goodObject_at W _ want _ (HW.out.bel hW))
  have G3 : Hid (∀ W, Below w.heap.size w W → Calls Tryz.prog 12 #[.slice la l.length lc] W fun e w' => e = .returned (.bool (goodOs l)) ∧ Below W.heap.size W w') := hidI (fun W hW => goodOwners_at W _ l _ (HL.out.bel hW) HP.out (HM.out.bel hW))
  have G4 : Hid (∀ W, Below w.heap.size w W → Calls Tryz.prog 20 #[.string ⟨who.toArray⟩] W fun e w' => e = .returned (.bool (namedB who)) ∧ Below W.heap.size W w') := hidI (fun W _ => (named_at W who hwho).mono fun e w' h => ⟨h.1, h.2 ▸ Below.refl _ _⟩)
  rw [hg1] at G1
  rw [hg2] at G2
  rw [hg3] at G3
  rw [hg4] at G4
  clear hg1 hg2 hg3 hg4
  obtain ⟨o0, o1, o2, o3, o4, -⟩ := X1.out.c
  go_enter Tryz.func6, Tryz.ntmps6
  go_upto_region 1 with fail
  rw [← HW3.out]
  go_upto_region 2 with (first
      | (go_at_call 20; refine (G4.out _ B3.out).mono ?_; rintro e w4 ⟨rfl, hb⟩; have B4 := hidI (bel_trans B3.out hb); have Y4 := hidI (bel_trans Y3.out hb); clear hb; skip)
      | (go_at_call 12; refine (G3.out _ B2.out).mono ?_; rintro e w3 ⟨rfl, hb⟩; have B3 := hidI (bel_trans B2.out hb); have Y3 := hidI (bel_trans Y2.out hb); clear hb; have u0 : w3.cell? ⟨w.heap.size + 1, 0, none⟩ = some (.string ⟨who.toArray⟩) := (by have h9 := blk_bel Y3.out X2.out; simp [World.cell?, h9]); skip)
      | (go_at_call 19; refine (G2.out _ B1.out).mono ?_; rintro e w2 ⟨rfl, hb⟩; have B2 := hidI (bel_trans B1.out hb); have Y2 := hidI (bel_trans Y1.out hb); clear hb; skip)
      | (go_at_call 19; refine (G1.out _ BW.out).mono ?_; rintro e w1 ⟨rfl, hb⟩; have B1 := hidI (bel_trans BW.out hb); have Y1 := hidI hb; clear hb; obtain ⟨p0, p1, p2, p3, p4, -⟩ := (box_bel Y1.out X3.out).c; skip))
  clear o0 o1 o2 o3 o4
  obtain ⟨v0, v1, v2, v3, v4, -⟩ := (box_bel Y4.out X1.out).c
  obtain ⟨n0, n1, n2, n3, n4, m0, m1, m2, m3, m4⟩ := (box_bel Y4.out X4.out).c
  have ZB := hidI ((box_bel Y4.out X4.out).set (.int .i64 t.kind) (.int .i64 t.n) (.string ⟨t.s.toArray⟩) (.slice b1 t.keys.length d1) (.slice b2 t.l.length d2))
  have BF := hidI (bel_set5 (g := w.heap.size + 3) B4.out (by omega) (.int .i64 t.kind) (.int .i64 t.n) (.string ⟨t.s.toArray⟩) (.slice b1 t.keys.length d1) (.slice b2 t.l.length d2))
  go_wp2_with fail
  obtain ⟨z0, z1, z2, z3, z4, -⟩ := ZB.out.c
  refine bodyPost_ret (v := .tuple #[.agg #[.int .i64 t.kind, .int .i64 t.n, .string ⟨t.s.toArray⟩, .slice b1 t.keys.length d1, .slice b2 t.l.length d2], .slice la l.length lc, .slice none 0 0, .int .i64 1]) ?_ rfl ?_
  · simp only [set5] at z0 z1 z2 z3 z4
    simp [results, Tryz.results6, go_sem, z0, z1, z2, z3, z4]
  · rw [ApplyIs, R.out]
    exact ⟨_, _, _, rfl, (HT.out.belB (fun k h => h.2) BF.out).weak fun k h => .inl h.1, (HL.out.belB (fun k h => h.2) BF.out).weak fun k h => .inl h.1, World.ownsRow_nil _ _ _ _, BF.out⟩
end Go.Proofs.YtmdemcjmcnfjmaaGreatDoor

/- Apply of package owner: the conflicts. -/
set_option linter.unusedSimpArgs false
set_option linter.unusedVariables false
namespace Go.Proofs.YtmdemcjmcnfjmaaGreatDoor
open Go.RowKit

set_option maxRecDepth 100000 in
set_option maxHeartbeats 4000000 in
theorem apply_conf (w : World) (ok : Nat → Prop) (t want : V) (l : List Own) (who : List UInt8) (force : Bool) (vt vl vw : Value) (ht : In w ok t vt) (hl : OwnsAre w ok l vl) (hw : In w ok want vw) (hM : GlobM w) (hN : (allOf l).length ≤ 4000000) (hP : ∀ o ∈ l, ∀ x ∈ o.paths, x.length ≤ 140737488351232) (hwho : who.length ≤ 9223372036854775807) (hg1 : (decide (t.kind = 5) && goodV t) = true) (hg2 : (decide (want.kind = 5) && goodV want) = true) (hg3 : goodOs l = true) (hg4 : namedB who = true) (hf : foundF (blockedF want t (leavesF want)) who l ≠ []) (hfo : force = false) :
    Calls Tryz.prog 6 #[vt, vl, .string ⟨who.toArray⟩, vw, .bool force] w fun e w' => ApplyIs w w' ok (applyF t l who want force) e := by
  have CC : Hid (confF t l who want = foundF (blockedF want t (leavesF want)) who l) := hidI (by rw [confF, if_pos ⟨by simpa using (Bool.and_eq_true_iff.1 hg1).2, hg3⟩])
  obtain ⟨nf, hnf⟩ : ∃ nf, (foundF (blockedF want t (leavesF want)) who l).length = nf := ⟨_, rfl⟩
  have NF := hidI hnf
  have R : Hid (applyF t l who want force = (t, l, foundF (blockedF want t (leavesF want)) who l, 5)) := hidI (by unfold applyF; rw [if_pos ⟨by simpa using hg1, by simpa using hg2, hg3, hg4⟩, if_pos ⟨hf, hfo⟩])
  have q0 : (0 : Int) < (nf : Int) := by
    have : nf ≠ 0 := fun e => hf (List.length_eq_zero_iff.1 (hnf.trans e))
    omega
  subst hfo
  clear hf hnf
  have HT := hidI ht.low
  have HL := hidI hl.low
  have HW := hidI hw.low
  have HM := hidI hM
  have HN := hidI hN
  have HP := hidI hP
  obtain ⟨b1, b2, d1, d2, rfl⟩ := ht.form
  obtain ⟨a1, a2, c1, c2, rfl⟩ := hw.form
  obtain ⟨la, lc, rfl⟩ := hl.form
  have ll := hl.1
  unfold maxLen at ll
  clear ht hl hw hM hN hP
  obtain ⟨W3, hW3⟩ : ∃ W, W = (((w.alloc (.cells #[.int .i64 t.kind, .int .i64 t.n, .string ⟨t.s.toArray⟩, .slice b1 t.keys.length d1, .slice b2 t.l.length d2] 25)).alloc (.cells #[.string ⟨who.toArray⟩] 9)).alloc (.cells #[.int .i64 want.kind, .int .i64 want.n, .string ⟨want.s.toArray⟩, .slice a1 want.keys.length c1, .slice a2 want.l.length c2] 25)).alloc (.cells #[.int .i64 0, .int .i64 0, .string ⟨#[]⟩, .slice none 0 0, .slice none 0 0] 25) := ⟨_, rfl⟩
  have BW : Hid (Below w.heap.size w W3) := hidI (by rw [hW3]; exact bel_trans (bel_trans (bel_trans (bel_alloc _ _) (bel_alloc _ _)) (bel_alloc _ _)) (bel_alloc _ _))
  have X1 : Hid (BoxIs W3 w.heap.size (.int .i64 t.kind) (.int .i64 t.n) (.string ⟨t.s.toArray⟩) (.slice b1 t.keys.length d1) (.slice b2 t.l.length d2)) := hidI (by rw [hW3]; exact h4z _ _ _ _ _ (h3a _ _ _ _))
  have X2 : Hid (W3.heap[w.heap.size + 1]? = some (.cells #[.string ⟨who.toArray⟩] 9)) := hidI (by rw [hW3]; exact h4z _ _ _ _ _ (h3b _ _ _ _))
  have X3 : Hid (BoxIs W3 (w.heap.size + 2) (.int .i64 want.kind) (.int .i64 want.n) (.string ⟨want.s.toArray⟩) (.slice a1 want.keys.length c1) (.slice a2 want.l.length c2)) := hidI (by rw [hW3]; exact h4z _ _ _ _ _ (h3c _ _ _ _))
  have X4 : Hid (BoxIs W3 (w.heap.size + 3) (.int .i64 0) (.int .i64 0) (.string ⟨#[]⟩) (.slice none 0 0) (.slice none 0 0)) := hidI (by rw [hW3]; exact h4dO _ _ _ _ _)
  have HW3 := hidI hW3
  clear hW3
  have G1 : Hid (∀ W, Below w.heap.size w W → Calls Tryz.prog 19 #[.agg #[.int .i64 t.kind, .int .i64 t.n, .string ⟨t.s.toArray⟩, .slice b1 t.keys.length d1, .slice b2 t.l.length d2]] W fun e w' => e = .returned (.bool (decide (t.kind = 5) && goodV t)) ∧ Below W.heap.size W w') := hidI (fun W hW => goodObject_at W _ t _ (HT.out.bel hW))
  have G2 : Hid (∀ W, Below w.heap.size w W → Calls Tryz.prog 19 #[.agg #[.int .i64 want.kind, .int .i64 want.n, .string ⟨want.s.toArray⟩, .slice a1 want.keys.length c1, .slice a2 want.l.length c2]] W fun e w' => e = .returned (.bool (decide (want.kind = 5) && goodV want)) ∧ Below W.heap.size W w') := hidI (fun W hW => goodObject_at W _ want _ (HW.out.bel hW))
  have G3 : Hid (∀ W, Below w.heap.size w W → Calls Tryz.prog 12 #[.slice la l.length lc] W fun e w' => e = .returned (.bool (goodOs l)) ∧ Below W.heap.size W w') := hidI (fun W hW => goodOwners_at W _ l _ (HL.out.bel hW) HP.out (HM.out.bel hW))
  have G4 : Hid (∀ W, Below w.heap.size w W → Calls Tryz.prog 20 #[.string ⟨who.toArray⟩] W fun e w' => e = .returned (.bool (namedB who)) ∧ Below W.heap.size W w') := hidI (fun W _ => (named_at W who hwho).mono fun e w' h => ⟨h.1, h.2 ▸ Below.refl _ _⟩)
  have SW : Hid (w.heap.size + 4 ≤ W3.heap.size) := hidI (by have := (Array.getElem?_eq_some_iff.1 X4.out).1; omega)
  rw [hg1] at G1
  rw [hg2] at G2
  rw [hg3] at G3
  rw [hg4] at G4
  clear hg1 hg2 hg3 hg4
  obtain ⟨o0, o1, o2, o3, o4, -⟩ := X1.out.c
  go_enter Tryz.func6, Tryz.ntmps6
  go_upto_region 1 with fail
  rw [← HW3.out]
  go_upto_region 3 with (first
      | (go_at_call 20; refine (G4.out _ B3.out).mono ?_; rintro e w4 ⟨rfl, hb⟩; have B4 := hidI (bel_trans B3.out hb); have Y4 := hidI (bel_trans Y3.out hb); clear hb; skip)
      | (go_at_call 12; refine (G3.out _ B2.out).mono ?_; rintro e w3 ⟨rfl, hb⟩; have B3 := hidI (bel_trans B2.out hb); have Y3 := hidI (bel_trans Y2.out hb); clear hb; have u0 : w3.cell? ⟨w.heap.size + 1, 0, none⟩ = some (.string ⟨who.toArray⟩) := (by have h9 := blk_bel Y3.out X2.out; simp [World.cell?, h9]); skip)
      | (go_at_call 19; refine (G2.out _ B1.out).mono ?_; rintro e w2 ⟨rfl, hb⟩; have B2 := hidI (bel_trans B1.out hb); have Y2 := hidI (bel_trans Y1.out hb); clear hb; skip)
      | (go_at_call 19; refine (G1.out _ BW.out).mono ?_; rintro e w1 ⟨rfl, hb⟩; have B1 := hidI (bel_trans BW.out hb); have Y1 := hidI hb; clear hb; obtain ⟨p0, p1, p2, p3, p4, -⟩ := (box_bel Y1.out X3.out).c; skip))
  clear o0 o1 o2 o3 o4 p0 p1 p2 p3 p4 u0
  obtain ⟨o0, o1, o2, o3, o4, -⟩ := (box_bel Y4.out X1.out).c
  obtain ⟨p0, p1, p2, p3, p4, -⟩ := (box_bel Y4.out X3.out).c
  have u0 : w4.cell? ⟨w.heap.size + 1, 0, none⟩ = some (.string ⟨who.toArray⟩) := (by have h9 := blk_bel Y4.out X2.out; simp [World.cell?, h9])
  have CF : Hid (Calls Tryz.prog 21 #[.agg #[.int .i64 t.kind, .int .i64 t.n, .string ⟨t.s.toArray⟩, .slice b1 t.keys.length d1, .slice b2 t.l.length d2], .slice la l.length lc, .string ⟨who.toArray⟩, .agg #[.int .i64 want.kind, .int .i64 want.n, .string ⟨want.s.toArray⟩, .slice a1 want.keys.length c1, .slice a2 want.l.length c2]] w4 fun e w' => ∃ ra rc, e = .returned (.slice ra nf rc) ∧ w'.ownsRow w4.heap.size 85 2 (.slice ra nf rc) (foundF (blockedF want t (leavesF want)) who l).length (cCells (foundF (blockedF want t (leavesF want)) who l)) ∧ Below w4.heap.size w4 w') := hidI (by
    refine (conflicts_at w4 _ _ _ t want l who _ _ _ (HT.out.bel B4.out) (HL.out.bel B4.out) (HW.out.bel B4.out) (HM.out.bel B4.out) HN.out HP.out).mono ?_
    rintro e w' ⟨r, rfl, h1, h2⟩
    rw [CC.out] at h1
    rcases h1.2 with ⟨rfl, h9⟩ | ⟨g, cap, cur, rfl, h9⟩
    · exact ⟨none, 0, by rw [← NF.out, h9], by rw [← NF.out]; rw [h9] at h1 ⊢; exact h1, h2⟩
    · exact ⟨_, _, by rw [NF.out], by rw [← NF.out]; exact h1, h2⟩)
  go_upto_region 5 with (go_at_call 21; refine CF.out.mono ?_; rintro e w5 ⟨ra, rc, rfl, hrow, hb⟩; have B5 := hidI (bel_trans B4.out hb); have Y5 := hidI (bel_trans Y4.out hb); have ROW := hidI hrow; have S4 := hidI (Nat.le_trans (show w.heap.size + 4 ≤ W3.heap.size from SW.out) Y4.out.size); clear hb hrow)
  clear o0 o1 o2 o3 o4 p0 p1 p2 p3 p4 u0
  obtain ⟨v0, v1, v2, v3, v4, -⟩ := (box_bel Y5.out X1.out).c
  obtain ⟨n0, n1, n2, n3, n4, m0, m1, m2, m3, m4⟩ := (box_bel Y5.out X4.out).c
  have ZB := hidI ((box_bel Y5.out X4.out).set (.int .i64 t.kind) (.int .i64 t.n) (.string ⟨t.s.toArray⟩) (.slice b1 t.keys.length d1) (.slice b2 t.l.length d2))
  have BF := hidI (bel_set5 (g := w.heap.size + 3) B5.out (by omega) (.int .i64 t.kind) (.int .i64 t.n) (.string ⟨t.s.toArray⟩) (.slice b1 t.keys.length d1) (.slice b2 t.l.length d2))
  go_wp2_with fail
  obtain ⟨z0, z1, z2, z3, z4, -⟩ := ZB.out.c
  refine bodyPost_ret (v := .tuple #[.agg #[.int .i64 t.kind, .int .i64 t.n, .string ⟨t.s.toArray⟩, .slice b1 t.keys.length d1, .slice b2 t.l.length d2], .slice la l.length lc, .slice ra nf rc, .int .i64 5]) ?_ rfl ?_
  · simp only [set5] at z0 z1 z2 z3 z4
    simp [results, Tryz.results6, go_sem, z0, z1, z2, z3, z4]
  · rw [ApplyIs, R.out]
    exact ⟨_, _, _, rfl, (HT.out.belB (fun k h => h.2) BF.out).weak fun k h => .inl h.1, (HL.out.belB (fun k h => h.2) BF.out).weak fun k h => .inl h.1, own_base (own_same ROW.out fun g hg => (set5_gb _ _ _ _ _ _ _).block g (own_lt ROW.out hg).2 (by have h8 := (own_lt ROW.out hg).1; have h9 := S4.out; intro e; cases e; omega)) (by have h9 := S4.out; omega), BF.out⟩
end Go.Proofs.YtmdemcjmcnfjmaaGreatDoor

/- Apply of package owner, where it is done. -/
set_option linter.unusedSimpArgs false
set_option linter.unusedVariables false
namespace Go.Proofs.YtmdemcjmcnfjmaaGreatDoor
open Go.RowKit

structure ApplyOk (t want : V) (l : List Own) (who : List UInt8) : Prop where
  rises : Rises (l.map Own.name)
  len : l.length ≤ 6
  obT : Obs t
  obW : Obs want
  k5 : t.kind = 5
  cT : cnt t ≤ 20000
  had : ∀ p ∈ pathsOfF l who, p.length ≤ 140737488351232 ∧ namesP p ≠ []
  lv : ∀ p ∈ leavesF want, p.length ≤ 140737488351232 ∧ namesP p ≠ [] ∧ (namesP p).length + cnt ((thr (namesP p) want).getD zeroT) ≤ 300
  lvn : (leavesF want).length ≤ 200
  named : ∀ o ∈ othersF t want l who, o.name.length ≤ maxLen
  risesO : Rises ((othersF t want l who).map Own.name)
  lenO : (othersF t want l who).length ≤ 4000000
theorem ap_znew {a W : World} (_ : Below a.heap.size a W) : BoxIs (W.alloc (.cells #[.int .i64 0, .int .i64 0, .string ⟨#[]⟩, .slice none 0 0, .slice none 0 0] 25)) W.heap.size (.int .i64 0) (.int .i64 0) (.string ⟨#[]⟩) (.slice none 0 0) (.slice none 0 0) := heap_alloc_new _ _
theorem ap_keep {W1 W2 : World} {ok : Nat → Prop} {S N g : Nat} {t : V} {v z0 z1 z2 z3 z4 : Value} (nb : BoxIs W1 g z0 z1 z2 z3 z4) (h : In W2 (okN (fun k => okN ok S k ∧ k < N) W1.heap.size) t v) (hN : N ≤ g) (hS : S ≤ W1.heap.size) : In W2 (fun k => okN ok S k ∧ k ≠ g) t v :=
  h.weak fun k hk => by
    have hl := (Array.getElem?_eq_some_iff.1 nb).1
    rcases hk with hk | hk
    · exact ⟨hk.1, by have := hk.2; omega⟩
    · exact ⟨.inr (Nat.le_trans hS hk), by omega⟩
theorem ap_plain {W2 : World} {ok : Nat → Prop} {S N B : Nat} {t : V} {v : Value} (h : In W2 (okN (fun k => okN ok S k ∧ k < N) B) t v) (hS : S ≤ B) : In W2 (okN ok S) t v :=
  h.weak fun k hk => by
    rcases hk with hk | hk
    · exact hk.1
    · exact .inr (Nat.le_trans hS hk)
theorem ap_low {W : World} {ok : Nat → Prop} {t : V} {v : Value} (h : In W ok t v) (ob : Obj) : In (W.alloc ob) (fun k => ok k ∧ k ≠ W.heap.size) t v :=
  (h.low.bel (bel_alloc W ob)).weak fun k hk => ⟨hk.1, by have := hk.2; omega⟩
theorem ap_keep2 {W1 W2 : World} {ok : Nat → Prop} {S g : Nat} {t : V} {v z0 z1 z2 z3 z4 : Value} (nb : BoxIs W1 g z0 z1 z2 z3 z4) (h : In W2 (okN (fun k => okN ok S k ∧ k ≠ g) W1.heap.size) t v) (hS : S ≤ W1.heap.size) : In W2 (fun k => okN ok S k ∧ k ≠ g) t v :=
  h.weak fun k hk => by
    have hl := (Array.getElem?_eq_some_iff.1 nb).1
    rcases hk with hk | hk
    · exact hk
    · exact ⟨.inr (Nat.le_trans hS hk), by omega⟩
theorem ap_plain2 {W2 : World} {ok : Nat → Prop} {S B : Nat} {t : V} {v : Value} (h : In W2 (okN (okN ok S) B) t v) (hS : S ≤ B) : In W2 (okN ok S) t v :=
  h.weak fun k hk => by
    rcases hk with hk | hk
    · exact hk
    · exact .inr (Nat.le_trans hS hk)
theorem ap_new {a W : World} {ok : Nat → Prop} {res : V} {a9 b9 : Option Addr} {c9 d9 : Nat} (h : Below a.heap.size a W) (hi : In W ok res (.agg #[.int .i64 res.kind, .int .i64 res.n, .string ⟨res.s.toArray⟩, .slice a9 res.keys.length c9, .slice b9 res.l.length d9])) :
    BoxIs (W.alloc (.cells #[.int .i64 res.kind, .int .i64 res.n, .string ⟨res.s.toArray⟩, .slice a9 res.keys.length c9, .slice b9 res.l.length d9] 25)) W.heap.size (.int .i64 res.kind) (.int .i64 res.n) (.string ⟨res.s.toArray⟩) (.slice a9 res.keys.length c9) (.slice b9 res.l.length d9) ∧ a.heap.size ≤ W.heap.size ∧ Below a.heap.size a (W.alloc (.cells #[.int .i64 res.kind, .int .i64 res.n, .string ⟨res.s.toArray⟩, .slice a9 res.keys.length c9, .slice b9 res.l.length d9] 25)) ∧ In (W.alloc (.cells #[.int .i64 res.kind, .int .i64 res.n, .string ⟨res.s.toArray⟩, .slice a9 res.keys.length c9, .slice b9 res.l.length d9] 25)) ok res (.agg #[.int .i64 res.kind, .int .i64 res.n, .string ⟨res.s.toArray⟩, .slice a9 res.keys.length c9, .slice b9 res.l.length d9]) :=
  ⟨heap_alloc_new _ _, h.size, bel_trans h (bel_alloc _ _), hi.bel (bel_alloc _ _)⟩
theorem ap_put {a W : World} {ok : Nat → Prop} {res : V} {a9 b9 : Option Addr} {c9 d9 g : Nat} {e0 e1 e2 e3 e4 : Value} (h : Below a.heap.size a W) (hg : a.heap.size ≤ g) (hb : BoxIs W g e0 e1 e2 e3 e4) (hi : In W (fun k => ok k ∧ k ≠ g) res (.agg #[.int .i64 res.kind, .int .i64 res.n, .string ⟨res.s.toArray⟩, .slice a9 res.keys.length c9, .slice b9 res.l.length d9])) :
    BoxIs (set5 W g (.int .i64 res.kind) (.int .i64 res.n) (.string ⟨res.s.toArray⟩) (.slice a9 res.keys.length c9) (.slice b9 res.l.length d9)) g (.int .i64 res.kind) (.int .i64 res.n) (.string ⟨res.s.toArray⟩) (.slice a9 res.keys.length c9) (.slice b9 res.l.length d9) ∧ a.heap.size ≤ g ∧ Below a.heap.size a (set5 W g (.int .i64 res.kind) (.int .i64 res.n) (.string ⟨res.s.toArray⟩) (.slice a9 res.keys.length c9) (.slice b9 res.l.length d9)) ∧ In (set5 W g (.int .i64 res.kind) (.int .i64 res.n) (.string ⟨res.s.toArray⟩) (.slice a9 res.keys.length c9) (.slice b9 res.l.length d9)) ok res (.agg #[.int .i64 res.kind, .int .i64 res.n, .string ⟨res.s.toArray⟩, .slice a9 res.keys.length c9, .slice b9 res.l.length d9]) :=
  ⟨hb.set _ _ _ _ _, hg, bel_set5 h hg _ _ _ _ _, (hi.grown (set5_gb W g _ _ _ _ _) (fun k h9 => by have := h9.2; simp; omega)).weak fun k h9 => h9.1⟩
theorem ap_wish {w8 W : World} {ok : Nat → Prop} {S : Nat} {t : V} {L : List (List UInt8)} {v : Value} (h : WishIs w8 (fun k => okN ok S k ∧ k < w8.heap.size) t L v) (hb : Below w8.heap.size w8 W) : WishIs W (okN ok S) t L v := (h.bel hb).weak fun k hk => hk.1
theorem ap_wishg {w8 W : World} {ok : Nat → Prop} {S g : Nat} {t : V} {L : List (List UInt8)} {v : Value} (h : WishIs w8 (fun k => okN ok S k ∧ k < w8.heap.size) t L v) (hb : Below w8.heap.size w8 W) (hg : w8.heap.size ≤ g) : WishIs W (fun k => okN ok S k ∧ k ≠ g) t L v := (h.bel hb).weak fun k hk => ⟨hk.1, by have := hk.2; omega⟩
attribute [local go_sem ↓] Go.wp_at_zero Go.wp_at_succ
theorem In.grownR {w w' : World} {ok : Nat → Prop} {r : Option Nat} {t : V} {v : Value} (h : In w ok t v) (hg : w.grownBy w' r) (hr : ∀ k, ok k → some k ≠ r) : In w' ok t v := by
  obtain ⟨d, h⟩ := h; exact ⟨d, h.grown hg hr⟩
theorem OwnsAre.grownR {w w' : World} {ok : Nat → Prop} {r : Option Nat} {l : List Own} {v : Value} (h : OwnsAre w ok l v) (hg : w.grownBy w' r) (hr : ∀ k, ok k → some k ≠ r) : OwnsAre w' ok l v := h.imp (cells_grown hg hr)
theorem OwnRow.bel {w w' : World} {B : Nat} {os : List Own} {r : Value} (h : OwnRow w B os r) (hb : Below w.heap.size w w') : OwnRow w' B os r := by
  obtain ⟨pvs, h1, h2, h3⟩ := h
  exact ⟨pvs, h1, own_same h2 fun g hg => hb.block g (own_lt h2 hg).2, fun i o v q1 q2 => ⟨(h3 i o v q1 q2).1, (h3 i o v q1 q2).2.bel hb⟩⟩
theorem OwnRow.lt {w : World} {B : Nat} {os : List Own} {r : Value} (h : OwnRow w B os r) : ∀ g, r.ownBlock = some g → B ≤ g ∧ g < w.heap.size := by
  obtain ⟨pvs, h1, h2, h3⟩ := h
  exact fun g hg => own_lt h2 hg
theorem wish_strs {w : World} {ok : Nat → Prop} {t : V} {L : List (List UInt8)} {v0 v1 v2 v3 v4 v5 : Value} (h : WishIs w ok t L (.agg #[v0, v1, v2, v3, v4, v5])) : StrsAre w ok L v5 := by
  obtain ⟨a1, a2, a3, c1, c2, c3, e, -, h2⟩ := h
  simp only [Value.agg.injEq, Array.mk.injEq, List.cons.injEq, and_true] at e
  rw [e.2.2.2.2.2]
  exact h2
theorem wish_low9 {w : World} {ok : Nat → Prop} {t : V} {L : List (List UInt8)} {v : Value} (h : WishIs w ok t L v) : WishIs w (fun k => ok k ∧ k < w.heap.size) t L v := by
  obtain ⟨a1, a2, a3, c1, c2, c3, rfl, h1, h2⟩ := h
  exact ⟨a1, a2, a3, c1, c2, c3, rfl, h1.low, h2.imp fun a x q1 q2 => ⟨⟨q1, World.block_lt_of_cell? _ _ q2⟩, q2⟩⟩
set_option maxRecDepth 100000 in
set_option maxHeartbeats 4000000 in
theorem apply_none (w : World) (ok : Nat → Prop) (t want : V) (l : List Own) (who : List UInt8) (force : Bool) (vt vl vw : Value) (ht : In w ok t vt) (hl : OwnsAre w ok l vl) (hw : In w ok want vw) (hM : GlobM w) (hN : (allOf l).length ≤ 4000000) (hP : ∀ o ∈ l, ∀ x ∈ o.paths, x.length ≤ 140737488351232) (hwho : who.length ≤ 9223372036854775807) (hg1 : (decide (t.kind = 5) && goodV t) = true) (hg2 : (decide (want.kind = 5) && goodV want) = true) (hg3 : goodOs l = true) (hg4 : namedB who = true) (hf : foundF (blockedF want t (leavesF want)) who l = []) (hao : ApplyOk t want l who) :
    Calls Tryz.prog 6 #[vt, vl, .string ⟨who.toArray⟩, vw, .bool force] w fun e w' => ApplyIs w w' ok (applyF t l who want force) e := by
  have AO := hidI hao
  have CC : Hid (confF t l who want = foundF (blockedF want t (leavesF want)) who l) := hidI (by rw [confF, if_pos ⟨by simpa using (Bool.and_eq_true_iff.1 hg1).2, hg3⟩])
  obtain ⟨nf, hnf⟩ : ∃ nf, (foundF (blockedF want t (leavesF want)) who l).length = nf := ⟨_, rfl⟩
  have NF := hidI hnf
  have RA : Hid (applyF t l who want force = if goodV (resultF t want l who) = true ∧ (withOwnF (othersF t want l who) ⟨who, leavesF want⟩).length ≤ 6 then (resultF t want l who, withOwnF (othersF t want l who) ⟨who, leavesF want⟩, [], 0) else (t, l, [], 2)) := hidI (by
    unfold applyF
    rw [if_pos ⟨by simpa using hg1, by simpa using hg2, hg3, hg4⟩, if_neg (by intro h; exact h.1 hf)])
  have q0 : ¬ (0 : Int) < (nf : Int) := by
    have : nf = 0 := by rw [← hnf, hf]; rfl
    omega
  clear hnf hao
  have HT := hidI ht.low
  have HL := hidI hl.low
  have HW := hidI hw.low
  have HM := hidI hM
  have HN := hidI hN
  have HP := hidI hP
  obtain ⟨b1, b2, d1, d2, rfl⟩ := ht.form
  obtain ⟨a1, a2, c1, c2, rfl⟩ := hw.form
  obtain ⟨la, lc, rfl⟩ := hl.form
  have ll := hl.1
  unfold maxLen at ll
  clear ht hl hw hM hN hP
  obtain ⟨W3, hW3⟩ : ∃ W, W = (((w.alloc (.cells #[.int .i64 t.kind, .int .i64 t.n, .string ⟨t.s.toArray⟩, .slice b1 t.keys.length d1, .slice b2 t.l.length d2] 25)).alloc (.cells #[.string ⟨who.toArray⟩] 9)).alloc (.cells #[.int .i64 want.kind, .int .i64 want.n, .string ⟨want.s.toArray⟩, .slice a1 want.keys.length c1, .slice a2 want.l.length c2] 25)).alloc (.cells #[.int .i64 0, .int .i64 0, .string ⟨#[]⟩, .slice none 0 0, .slice none 0 0] 25) := ⟨_, rfl⟩
  have BW : Hid (Below w.heap.size w W3) := hidI (by rw [hW3]; exact bel_trans (bel_trans (bel_trans (bel_alloc _ _) (bel_alloc _ _)) (bel_alloc _ _)) (bel_alloc _ _))
  have X1 : Hid (BoxIs W3 w.heap.size (.int .i64 t.kind) (.int .i64 t.n) (.string ⟨t.s.toArray⟩) (.slice b1 t.keys.length d1) (.slice b2 t.l.length d2)) := hidI (by rw [hW3]; exact h4z _ _ _ _ _ (h3a _ _ _ _))
  have X2 : Hid (W3.heap[w.heap.size + 1]? = some (.cells #[.string ⟨who.toArray⟩] 9)) := hidI (by rw [hW3]; exact h4z _ _ _ _ _ (h3b _ _ _ _))
  have X3 : Hid (BoxIs W3 (w.heap.size + 2) (.int .i64 want.kind) (.int .i64 want.n) (.string ⟨want.s.toArray⟩) (.slice a1 want.keys.length c1) (.slice a2 want.l.length c2)) := hidI (by rw [hW3]; exact h4z _ _ _ _ _ (h3c _ _ _ _))
  have X4 : Hid (BoxIs W3 (w.heap.size + 3) (.int .i64 0) (.int .i64 0) (.string ⟨#[]⟩) (.slice none 0 0) (.slice none 0 0)) := hidI (by rw [hW3]; exact h4dO _ _ _ _ _)
  have HW3 := hidI hW3
  clear hW3
  have G1 : Hid (∀ W, Below w.heap.size w W → Calls Tryz.prog 19 #[.agg #[.int .i64 t.kind, .int .i64 t.n, .string ⟨t.s.toArray⟩, .slice b1 t.keys.length d1, .slice b2 t.l.length d2]] W fun e w' => e = .returned (.bool (decide (t.kind = 5) && goodV t)) ∧ Below W.heap.size W w') := hidI (fun W hW => goodObject_at W _ t _ (HT.out.bel hW))
  have G2 : Hid (∀ W, Below w.heap.size w W → Calls Tryz.prog 19 #[.agg #[.int .i64 want.kind, .int .i64 want.n, .string ⟨want.s.toArray⟩, .slice a1 want.keys.length c1, .slice a2 want.l.length c2]] W fun e w' => e = .returned (.bool (decide (want.kind = 5) && goodV want)) ∧ Below W.heap.size W w') := hidI (fun W hW => goodObject_at W _ want _ (HW.out.bel hW))
  have G3 : Hid (∀ W, Below w.heap.size w W → Calls Tryz.prog 12 #[.slice la l.length lc] W fun e w' => e = .returned (.bool (goodOs l)) ∧ Below W.heap.size W w') := hidI (fun W hW => goodOwners_at W _ l _ (HL.out.bel hW) HP.out (HM.out.bel hW))
  have G4 : Hid (∀ W, Below w.heap.size w W → Calls Tryz.prog 20 #[.string ⟨who.toArray⟩] W fun e w' => e = .returned (.bool (namedB who)) ∧ Below W.heap.size W w') := hidI (fun W _ => (named_at W who hwho).mono fun e w' h => ⟨h.1, h.2 ▸ Below.refl _ _⟩)
  have SW : Hid (w.heap.size + 4 ≤ W3.heap.size) := hidI (by have := (Array.getElem?_eq_some_iff.1 X4.out).1; omega)
  rw [hg1] at G1
  rw [hg2] at G2
  rw [hg3] at G3
  rw [hg4] at G4
  clear hg1 hg2 hg3 hg4
  obtain ⟨o0, o1, o2, o3, o4, -⟩ := X1.out.c
  go_enter Tryz.func6, Tryz.ntmps6
  go_upto_region 1 with fail
  rw [← HW3.out]
  go_upto_region 3 with (first
      | (go_at_call 20; refine (G4.out _ B3.out).mono ?_; rintro e w4 ⟨rfl, hb⟩; have B4 := hidI (bel_trans B3.out hb); have Y4 := hidI (bel_trans Y3.out hb); clear hb; skip)
      | (go_at_call 12; refine (G3.out _ B2.out).mono ?_; rintro e w3 ⟨rfl, hb⟩; have B3 := hidI (bel_trans B2.out hb); have Y3 := hidI (bel_trans Y2.out hb); clear hb; have u0 : w3.cell? ⟨w.heap.size + 1, 0, none⟩ = some (.string ⟨who.toArray⟩) := (by have h9 := blk_bel Y3.out X2.out; simp [World.cell?, h9]); skip)
      | (go_at_call 19; refine (G2.out _ B1.out).mono ?_; rintro e w2 ⟨rfl, hb⟩; have B2 := hidI (bel_trans B1.out hb); have Y2 := hidI (bel_trans Y1.out hb); clear hb; skip)
      | (go_at_call 19; refine (G1.out _ BW.out).mono ?_; rintro e w1 ⟨rfl, hb⟩; have B1 := hidI (bel_trans BW.out hb); have Y1 := hidI hb; clear hb; obtain ⟨p0, p1, p2, p3, p4, -⟩ := (box_bel Y1.out X3.out).c; skip))
  clear o0 o1 o2 o3 o4 p0 p1 p2 p3 p4 u0
  obtain ⟨o0, o1, o2, o3, o4, -⟩ := (box_bel Y4.out X1.out).c
  obtain ⟨p0, p1, p2, p3, p4, -⟩ := (box_bel Y4.out X3.out).c
  have u0 : w4.cell? ⟨w.heap.size + 1, 0, none⟩ = some (.string ⟨who.toArray⟩) := (by have h9 := blk_bel Y4.out X2.out; simp [World.cell?, h9])
  have CF : Hid (Calls Tryz.prog 21 #[.agg #[.int .i64 t.kind, .int .i64 t.n, .string ⟨t.s.toArray⟩, .slice b1 t.keys.length d1, .slice b2 t.l.length d2], .slice la l.length lc, .string ⟨who.toArray⟩, .agg #[.int .i64 want.kind, .int .i64 want.n, .string ⟨want.s.toArray⟩, .slice a1 want.keys.length c1, .slice a2 want.l.length c2]] w4 fun e w' => ∃ ra rc, e = .returned (.slice ra nf rc) ∧ w'.ownsRow w4.heap.size 85 2 (.slice ra nf rc) (foundF (blockedF want t (leavesF want)) who l).length (cCells (foundF (blockedF want t (leavesF want)) who l)) ∧ Below w4.heap.size w4 w') := hidI (by
    refine (conflicts_at w4 _ _ _ t want l who _ _ _ (HT.out.bel B4.out) (HL.out.bel B4.out) (HW.out.bel B4.out) (HM.out.bel B4.out) HN.out HP.out).mono ?_
    rintro e w' ⟨r, rfl, h1, h2⟩
    rw [CC.out] at h1
    rcases h1.2 with ⟨rfl, h9⟩ | ⟨g, cap, cur, rfl, h9⟩
    · exact ⟨none, 0, by rw [← NF.out, h9], by rw [← NF.out]; rw [h9] at h1 ⊢; exact h1, h2⟩
    · exact ⟨_, _, by rw [NF.out], by rw [← NF.out]; exact h1, h2⟩)
  go_upto_region 6 with (go_at_call 21; refine CF.out.mono ?_; rintro e w5 ⟨ra, rc, rfl, hrow, hb⟩; have B5 := hidI (bel_trans B4.out hb); have Y5 := hidI (bel_trans Y4.out hb); have ROW := hidI hrow; have S4 := hidI (Nat.le_trans (show w.heap.size + 4 ≤ W3.heap.size from SW.out) Y4.out.size); clear hb hrow)
  clear o0 o1 o2 o3 o4 p0 p1 p2 p3 p4 u0 q0
  obtain ⟨p0, p1, p2, p3, p4, -⟩ := (box_bel Y5.out X3.out).c
  have WO := hidI (wishOf_at w5 (fun k => ok k ∧ k < w.heap.size) want _ (by exact HW.out.bel B5.out) (HM.out.bel B5.out))
  go_upto_region 7 with (go_at_call 22; refine WO.out.mono ?_; rintro e w6 ⟨r, rfl, hwi, hb⟩; have B6 := hidI (bel_trans B5.out hb); have Y6 := hidI (bel_trans Y5.out hb); have WI := hidI hwi; have Y56 := hidI hb; clear hb; obtain ⟨x1, x2, x3, y1, y2, y3, rfl, -, -⟩ := hwi)
  clear p0 p1 p2 p3 p4
  obtain ⟨W7, hW7⟩ : ∃ W, W = w6.alloc (.cells #[.int .i64 want.kind, .int .i64 want.n, .string ⟨want.s.toArray⟩, .slice x1 want.keys.length y1, .slice x2 want.l.length y2, .slice x3 (leavesF want).length y3] 53) := ⟨_, rfl⟩
  have Y7 : Hid (Below w6.heap.size w6 W7) := hidI (by rw [hW7]; exact bel_alloc _ _)
  have X7 : Hid (W7.heap[w6.heap.size]? = some (.cells #[.int .i64 want.kind, .int .i64 want.n, .string ⟨want.s.toArray⟩, .slice x1 want.keys.length y1, .slice x2 want.l.length y2, .slice x3 (leavesF want).length y3] 53)) := hidI (by rw [hW7]; exact heap_alloc_new _ _)
  have B7 := hidI (bel_trans B6.out Y7.out)
  rw [← hW7]
  clear hW7
  have CAP : Hid (CapI W7 (okN (fun k => ok k ∧ k < w.heap.size) w5.heap.size) (fun k => ok k ∧ k < w.heap.size) who want t (leavesF want) (w.heap.size + 1) w6.heap.size w.heap.size x1 x2 x3 b1 b2 y1 y2 y3 d1 d2) := hidI ⟨by
    have h9 := blk_bel (bel_trans Y6.out Y7.out) X2.out
    simp [World.cell?, h9], X7.out, box_bel (bel_trans Y6.out Y7.out) X1.out, WI.out.bel Y7.out, HT.out.bel B7.out, HM.out.bel B7.out, by have := AO.out.cT; omega, (leaves_rise want).1, (leaves_rise want).2⟩
  have WI7 : Hid (WishIs W7 (fun k => okN (fun k => ok k ∧ k < w.heap.size) w5.heap.size k ∧ k < W7.heap.size) want (leavesF want) (.agg #[.int .i64 want.kind, .int .i64 want.n, .string ⟨want.s.toArray⟩, .slice x1 want.keys.length y1, .slice x2 want.l.length y2, .slice x3 (leavesF want).length y3])) := hidI (wish_low9 (WI.out.bel Y7.out))
  have KEPT := hidI (kept_at W7 (fun k => ok k ∧ k < w.heap.size) l _ 24 #[.pointer (some ⟨w.heap.size + 1, 0, none⟩), .pointer (some ⟨w6.heap.size, 0, none⟩), .pointer (some ⟨w.heap.size, 0, none⟩)] (fun n p => n != who && !blockedF want t (leavesF want) p) apply1_enters
    (fun W n p hW hnp => apply1_at W _ _ who want t (leavesF want) _ _ _ _ _ _ _ _ _ _ _ _ _ n p (CAP.out.bel hW) (by obtain ⟨o, ho, -, hx⟩ := allOf_mem hnp; exact HP.out o ho _ hx)) (HL.out.bel B7.out) AO.out.rises HN.out (fun o ho x hx => by have := HP.out o ho x hx; unfold maxLen; omega))
  rw [show keptF (fun n p => n != who && !blockedF want t (leavesF want) p) l = othersF t want l who from rfl] at KEPT
  go_upto_region 8 with (go_at_call 23; refine KEPT.out.mono ?_; rintro e w8 ⟨oa, oc, rfl, hrow, hb⟩; have Y8 := hidI (bel_trans (bel_trans Y6.out Y7.out) hb); have B8 := hidI (bel_trans B7.out hb); have ORW := hidI hrow; have B78 := hidI hb; clear hb hrow)
  have VB8 := hidI (box_bel Y8.out X1.out)
  have RB8 := hidI (box_bel Y8.out X4.out)
  have XW8 := hidI (blk_bel B78.out X7.out)
  have NC8 : Hid (w8.cell? ⟨w.heap.size + 1, 0, none⟩ = some (.string ⟨who.toArray⟩)) := hidI (by have h9 := blk_bel Y8.out X2.out; simp [World.cell?, h9])
  have OW8 := hidI (ORW.out.owns AO.out.named)
  have WI8 : Hid (WishIs w8 (fun k => okN (fun k => okN (fun k => ok k ∧ k < w.heap.size) w5.heap.size k ∧ k < W7.heap.size) w8.heap.size k ∧ k < w8.heap.size) want (leavesF want) (.agg #[.int .i64 want.kind, .int .i64 want.n, .string ⟨want.s.toArray⟩, .slice x1 want.keys.length y1, .slice x2 want.l.length y2, .slice x3 (leavesF want).length y3])) := hidI ((WI7.out.bel B78.out).weak fun k hk => ⟨.inl hk, Nat.lt_of_lt_of_le hk.2 B78.out.size⟩)
  obtain ⟨cl, hcl⟩ : ∃ cl, clearedF (leavesF want) (othersF t want l who) (pathsOfF l who) t = cl := ⟨_, rfl⟩
  have HCL := hidI hcl
  obtain ⟨res, hres⟩ : ∃ res, laidAllF want (leavesF want) cl = res := ⟨_, rfl⟩
  have HRES := hidI hres
  have HRF : Hid (resultF t want l who = res) := hidI (by rw [← hres, ← hcl]; rfl)
  clear hcl hres
  go_cut [17] (fun pv wc => ∃ (g7 : Nat) (a9 b9 : Option Addr) (c9 d9 : Nat), pv = .pointer (some ⟨g7, 0, none⟩) ∧ (BoxIs wc g7 (.int .i64 res.kind) (.int .i64 res.n) (.string ⟨res.s.toArray⟩) (.slice a9 res.keys.length c9) (.slice b9 res.l.length d9) ∧ w8.heap.size ≤ g7 ∧ Below w8.heap.size w8 wc ∧ In wc (okN (fun k => okN (fun k => ok k ∧ k < w.heap.size) w5.heap.size k ∧ k < W7.heap.size) w8.heap.size) res (.agg #[.int .i64 res.kind, .int .i64 res.n, .string ⟨res.s.toArray⟩, .slice a9 res.keys.length c9, .slice b9 res.l.length d9])))
  case first =>
    refine wp_region_T (fun wS => Below w8.heap.size w8 wS) [10] (by kernel_rfl) (bel_drewN _ 1) (fun hHeld => ?_)
    refine wpAnyT_take (i := 0) (v := ?_) [8, 10] (oi := _) rfl (by kernel_rfl) (by kernel_rfl) (by kernel_rfl) (by kernel_rfl) (fun _ _ _ h => h) (Or.inl ⟨by rfl, ?_⟩) hHeld ?_
    rotate_left
    · intro wS hSw
      obtain ⟨u0, u1, u2, u3, u4, -⟩ := (box_bel hSw VB8.out).c
      obtain ⟨e0, e1, e2, e3, e4, e5⟩ := box6 (blk_bel hSw XW8.out)
      have nm := cell_bel hSw NC8.out
      go_simp
      all_goals with_reducible rfl
    simp only [Act.put, List.setIfInBounds_toArray, List.set_cons_zero, List.set_cons_succ]
    refine wpAnyT_take (i := 1) (v := ?_) [7, 8, 10] (oi := _) rfl (by kernel_rfl) (by kernel_rfl) (by kernel_rfl) (by kernel_rfl) (fun _ _ _ h => h) (Or.inl ⟨by rfl, ?_⟩) hHeld ?_
    rotate_left
    · intro wS hSw
      obtain ⟨u0, u1, u2, u3, u4, -⟩ := (box_bel hSw VB8.out).c
      obtain ⟨e0, e1, e2, e3, e4, e5⟩ := box6 (blk_bel hSw XW8.out)
      have nm := cell_bel hSw NC8.out
      go_simp
      all_goals with_reducible rfl
    simp only [Act.put, List.setIfInBounds_toArray, List.set_cons_zero, List.set_cons_succ]
    refine wpAnyT_take (i := 2) (v := ?_) [7, 8, 10] (oi := _) rfl (by kernel_rfl) (by kernel_rfl) (by kernel_rfl) (by kernel_rfl) (fun _ _ _ h => h) (Or.inl ⟨by rfl, ?_⟩) hHeld ?_
    rotate_left
    · intro wS hSw
      obtain ⟨u0, u1, u2, u3, u4, -⟩ := (box_bel hSw VB8.out).c
      obtain ⟨e0, e1, e2, e3, e4, e5⟩ := box6 (blk_bel hSw XW8.out)
      have nm := cell_bel hSw NC8.out
      go_simp
      all_goals with_reducible rfl
    simp only [Act.put, List.setIfInBounds_toArray, List.set_cons_zero, List.set_cons_succ]
    refine wpAnyT_take (i := 3) (v := ?_) [5, 7, 8, 10] (oi := _) rfl (by kernel_rfl) (by kernel_rfl) (by kernel_rfl) (by kernel_rfl) (fun _ _ _ h => h) (Or.inl ⟨by rfl, ?_⟩) hHeld ?_
    rotate_left
    · intro wS hSw
      go_simp
      all_goals with_reducible rfl
    simp only [Act.put, List.setIfInBounds_toArray, List.set_cons_zero, List.set_cons_succ]
    refine wpAnyT_take (i := 4) (v := ?_) [5, 7, 8, 10] (oi := _) rfl (by kernel_rfl) (by kernel_rfl) (by kernel_rfl) (by kernel_rfl) (fun _ _ _ h => h) (Or.inl ⟨by rfl, ?_⟩) hHeld ?_
    rotate_left
    · intro wS hSw
      obtain ⟨u0, u1, u2, u3, u4, -⟩ := (box_bel hSw VB8.out).c
      obtain ⟨e0, e1, e2, e3, e4, e5⟩ := box6 (blk_bel hSw XW8.out)
      have nm := cell_bel hSw NC8.out
      go_simp
      all_goals with_reducible rfl
    simp only [Act.put, List.setIfInBounds_toArray, List.set_cons_zero, List.set_cons_succ]
    refine wpAnyT_take (i := 6) (v := ?_) [7, 8, 10] (oi := _) rfl (by kernel_rfl) (by kernel_rfl) (by kernel_rfl) (by kernel_rfl) (fun _ _ _ h => h) (Or.inl ⟨by rfl, ?_⟩) hHeld ?_
    rotate_left
    · intro wS hSw
      go_simp
      all_goals with_reducible rfl
    simp only [Act.put, List.setIfInBounds_toArray, List.set_cons_zero, List.set_cons_succ]
    refine wpAnyT_ready (rs := [5, 9]) (by kernel_rfl) (by simp) ?_
    refine AllReadyT.cons (i := 5) (o := _) rfl (fun K hK => ?_) ?_
    · go_simp
      refine (pathsOf_at _ (fun k => ok k ∧ k < w.heap.size) l _ who (by exact (HL.out.bel B8.out).bel hHeld) AO.out.rises (by have := AO.out.len; omega)).mono ?_
      rintro e w5q ⟨pa, pc, rfl, hst, hb5⟩
      refine hK.out _ _ (bel_trans hHeld hb5) (fun hHeld2 => ?_)
      have HADS := hidI hst
      try replace NB := hidI (box_bel hb5 NB.out)
      clear hb5 hst
      clear hK K
      replace hHeld := hHeld2
      clear hHeld2
      try simp only [Act.put, List.setIfInBounds_toArray, List.set_cons_zero, List.set_cons_succ]
      refine wpAnyT_ready (rs := [7, 9]) (by kernel_rfl) (by simp) ?_
      refine AllReadyT.cons (i := 7) (o := _) rfl (fun K hK => ?_) ?_
      · go_simp
        refine (cleared_at _ (fun k => okN (fun k => okN (fun k => ok k ∧ k < w.heap.size) w5.heap.size k ∧ k < W7.heap.size) w8.heap.size k ∧ k < w8.heap.size) (fun k => ok k ∧ k < w.heap.size) (fun k => W7.heap.size ≤ k) want t (leavesF want) (pathsOfF l who) (othersF t want l who) _ _ _ _ (by exact WI8.out.bel hHeld) (by exact ((HT.out.bel B8.out).bel hHeld).weak fun k hk => ⟨.inl ⟨.inl hk, Nat.lt_of_lt_of_le hk.2 B7.out.size⟩, Nat.lt_of_lt_of_le hk.2 B8.out.size⟩) (by exact HADS.out) (by exact OW8.out.bel hHeld) (by exact (HM.out.bel B8.out).bel hHeld) AO.out.obT AO.out.k5 AO.out.had (leaves_rise want).1 (leaves_rise want).2 AO.out.cT).mono ?_
        rintro e w7q ⟨rv, rfl, hr5, hb5, ho5, hc5, -⟩
        rw [HCL.out] at hr5 ho5 hc5
        obtain ⟨a6, b6, c6, d6, rfl⟩ := hr5.form
        have CLO := hidI ho5
        have CLC := hidI hc5
        have hS5 := hHeld.size
        refine hK.out _ _ (bel_trans hHeld hb5) (fun hHeld2 => ?_)
        first | (have CLI := hidI (ap_keep NB.out hr5 HG.out hS5)) | (have CLI := hidI (ap_plain hr5 hS5))
        try replace NB := hidI (box_bel hb5 NB.out)
        clear hb5 hr5 ho5 hc5 hS5
        clear hK K
        replace hHeld := hHeld2
        clear hHeld2
        try simp only [Act.put, List.setIfInBounds_toArray, List.set_cons_zero, List.set_cons_succ]
        refine wpAnyT_ready (rs := [8, 9]) (by kernel_rfl) (by simp) ?_
        refine AllReadyT.cons (i := 8) (o := _) rfl (fun K hK => ?_) ?_
        · go_simp
          refine (laidInto_at _ _ want cl (leavesF want) _ _ (by first | exact ap_wishg WI8.out hHeld HG.out | exact ap_wish WI8.out hHeld) CLI.out (by exact (HM.out.bel B8.out).bel hHeld) CLO.out AO.out.obW AO.out.lv AO.out.lvn CLC.out).mono ?_
          rintro e w8q ⟨rv, rfl, hr5, hb5⟩
          rw [HRES.out] at hr5
          obtain ⟨a9, b9, c9, d9, rfl⟩ := hr5.form
          have hS5 := hHeld.size
          refine hK.out _ _ (bel_trans hHeld hb5) (fun hHeld2 => ?_)
          first | (have RI := hidI (ap_keep2 NB.out hr5 hS5)) | (have RI := hidI (ap_plain2 hr5 hS5))
          try replace NB := hidI (box_bel hb5 NB.out)
          have CALLED : Hid True := hidI trivial
          clear hb5 hr5 hS5
          clear hK K
          replace hHeld := hHeld2
          clear hHeld2
          try simp only [Act.put, List.setIfInBounds_toArray, List.set_cons_zero, List.set_cons_succ]
          refine wpAnyT_ready (rs := [9]) (by kernel_rfl) (by simp) ?_
          refine AllReadyT.cons (i := 9) (o := _) rfl (fun K hK => ?_) ?_
          · go_simp
            refine hK.out _ _ (bel_trans hHeld (bel_alloc _ _)) (fun hHeld2 => ?_)
            have NB := hidI (ap_znew hHeld)
            have HG := hidI hHeld.size
            try replace HADS := hidI (HADS.out.bel (bel_alloc _ (.cells #[.int .i64 0, .int .i64 0, .string ⟨#[]⟩, .slice none 0 0, .slice none 0 0] 25)))
            first | (have c9 := CALLED.out; clear c9; have FINA := hidI (ap_new hHeld RI.out)) | (replace CLI := hidI (ap_low CLI.out (.cells #[.int .i64 0, .int .i64 0, .string ⟨#[]⟩, .slice none 0 0, .slice none 0 0] 25))) | skip
            clear hK K
            replace hHeld := hHeld2
            clear hHeld2
            try simp only [Act.put, List.setIfInBounds_toArray, List.set_cons_zero, List.set_cons_succ]
            try rw [show (World.drew w8).heap.size = w8.heap.size from rfl] at NB
            obtain ⟨n0, n1, n2, n3, n4, m0, m1, m2, m3, m4⟩ := NB.out.c
            first | (have c9 := FINA.out; clear c9) | (have FINB := hidI (ap_put hHeld HG.out NB.out RI.out))
            refine wpAnyT_last (i := 10) (o := _) (by kernel_rfl) (by rfl) rfl (fun K hK => ?_)
            go_simp
            refine hK.out _ _ ?_
            clear hK K
            try simp only [Act.put, List.setIfInBounds_toArray, List.set_cons_zero, List.set_cons_succ]
            refine wpAnyT_done (by kernel_rfl) ?_ _
            go_wp2_with fail
            go_meet
            case rel => first | exact ⟨_, _, _, _, _, rfl, FINA.out⟩ | exact ⟨_, _, _, _, _, rfl, FINB.out⟩
          exact AllReadyT.nil
        refine AllReadyT.cons (i := 9) (o := _) rfl (fun K hK => ?_) ?_
        · go_simp
          refine hK.out _ _ (bel_trans hHeld (bel_alloc _ _)) (fun hHeld2 => ?_)
          have NB := hidI (ap_znew hHeld)
          have HG := hidI hHeld.size
          try replace HADS := hidI (HADS.out.bel (bel_alloc _ (.cells #[.int .i64 0, .int .i64 0, .string ⟨#[]⟩, .slice none 0 0, .slice none 0 0] 25)))
          first | (have c9 := CALLED.out; clear c9; have FINA := hidI (ap_new hHeld RI.out)) | (replace CLI := hidI (ap_low CLI.out (.cells #[.int .i64 0, .int .i64 0, .string ⟨#[]⟩, .slice none 0 0, .slice none 0 0] 25))) | skip
          clear hK K
          replace hHeld := hHeld2
          clear hHeld2
          try simp only [Act.put, List.setIfInBounds_toArray, List.set_cons_zero, List.set_cons_succ]
          refine wpAnyT_ready (rs := [8]) (by kernel_rfl) (by simp) ?_
          refine AllReadyT.cons (i := 8) (o := _) rfl (fun K hK => ?_) ?_
          · go_simp
            refine (laidInto_at _ _ want cl (leavesF want) _ _ (by first | exact ap_wishg WI8.out hHeld HG.out | exact ap_wish WI8.out hHeld) CLI.out (by exact (HM.out.bel B8.out).bel hHeld) CLO.out AO.out.obW AO.out.lv AO.out.lvn CLC.out).mono ?_
            rintro e w8q ⟨rv, rfl, hr5, hb5⟩
            rw [HRES.out] at hr5
            obtain ⟨a9, b9, c9, d9, rfl⟩ := hr5.form
            have hS5 := hHeld.size
            refine hK.out _ _ (bel_trans hHeld hb5) (fun hHeld2 => ?_)
            first | (have RI := hidI (ap_keep2 NB.out hr5 hS5)) | (have RI := hidI (ap_plain2 hr5 hS5))
            try replace NB := hidI (box_bel hb5 NB.out)
            have CALLED : Hid True := hidI trivial
            clear hb5 hr5 hS5
            clear hK K
            replace hHeld := hHeld2
            clear hHeld2
            try simp only [Act.put, List.setIfInBounds_toArray, List.set_cons_zero, List.set_cons_succ]
            try rw [show (World.drew w8).heap.size = w8.heap.size from rfl] at NB
            obtain ⟨n0, n1, n2, n3, n4, m0, m1, m2, m3, m4⟩ := NB.out.c
            first | (have c9 := FINA.out; clear c9) | (have FINB := hidI (ap_put hHeld HG.out NB.out RI.out))
            refine wpAnyT_last (i := 10) (o := _) (by kernel_rfl) (by rfl) rfl (fun K hK => ?_)
            go_simp
            refine hK.out _ _ ?_
            clear hK K
            try simp only [Act.put, List.setIfInBounds_toArray, List.set_cons_zero, List.set_cons_succ]
            refine wpAnyT_done (by kernel_rfl) ?_ _
            go_wp2_with fail
            go_meet
            case rel => first | exact ⟨_, _, _, _, _, rfl, FINA.out⟩ | exact ⟨_, _, _, _, _, rfl, FINB.out⟩
          exact AllReadyT.nil
        exact AllReadyT.nil
      refine AllReadyT.cons (i := 9) (o := _) rfl (fun K hK => ?_) ?_
      · go_simp
        refine hK.out _ _ (bel_trans hHeld (bel_alloc _ _)) (fun hHeld2 => ?_)
        have NB := hidI (ap_znew hHeld)
        have HG := hidI hHeld.size
        try replace HADS := hidI (HADS.out.bel (bel_alloc _ (.cells #[.int .i64 0, .int .i64 0, .string ⟨#[]⟩, .slice none 0 0, .slice none 0 0] 25)))
        first | (have c9 := CALLED.out; clear c9; have FINA := hidI (ap_new hHeld RI.out)) | (replace CLI := hidI (ap_low CLI.out (.cells #[.int .i64 0, .int .i64 0, .string ⟨#[]⟩, .slice none 0 0, .slice none 0 0] 25))) | skip
        clear hK K
        replace hHeld := hHeld2
        clear hHeld2
        try simp only [Act.put, List.setIfInBounds_toArray, List.set_cons_zero, List.set_cons_succ]
        refine wpAnyT_ready (rs := [7]) (by kernel_rfl) (by simp) ?_
        refine AllReadyT.cons (i := 7) (o := _) rfl (fun K hK => ?_) ?_
        · go_simp
          refine (cleared_at _ (fun k => okN (fun k => okN (fun k => ok k ∧ k < w.heap.size) w5.heap.size k ∧ k < W7.heap.size) w8.heap.size k ∧ k < w8.heap.size) (fun k => ok k ∧ k < w.heap.size) (fun k => W7.heap.size ≤ k) want t (leavesF want) (pathsOfF l who) (othersF t want l who) _ _ _ _ (by exact WI8.out.bel hHeld) (by exact ((HT.out.bel B8.out).bel hHeld).weak fun k hk => ⟨.inl ⟨.inl hk, Nat.lt_of_lt_of_le hk.2 B7.out.size⟩, Nat.lt_of_lt_of_le hk.2 B8.out.size⟩) (by exact HADS.out) (by exact OW8.out.bel hHeld) (by exact (HM.out.bel B8.out).bel hHeld) AO.out.obT AO.out.k5 AO.out.had (leaves_rise want).1 (leaves_rise want).2 AO.out.cT).mono ?_
          rintro e w7q ⟨rv, rfl, hr5, hb5, ho5, hc5, -⟩
          rw [HCL.out] at hr5 ho5 hc5
          obtain ⟨a6, b6, c6, d6, rfl⟩ := hr5.form
          have CLO := hidI ho5
          have CLC := hidI hc5
          have hS5 := hHeld.size
          refine hK.out _ _ (bel_trans hHeld hb5) (fun hHeld2 => ?_)
          first | (have CLI := hidI (ap_keep NB.out hr5 HG.out hS5)) | (have CLI := hidI (ap_plain hr5 hS5))
          try replace NB := hidI (box_bel hb5 NB.out)
          clear hb5 hr5 ho5 hc5 hS5
          clear hK K
          replace hHeld := hHeld2
          clear hHeld2
          try simp only [Act.put, List.setIfInBounds_toArray, List.set_cons_zero, List.set_cons_succ]
          refine wpAnyT_ready (rs := [8]) (by kernel_rfl) (by simp) ?_
          refine AllReadyT.cons (i := 8) (o := _) rfl (fun K hK => ?_) ?_
          · go_simp
            refine (laidInto_at _ _ want cl (leavesF want) _ _ (by first | exact ap_wishg WI8.out hHeld HG.out | exact ap_wish WI8.out hHeld) CLI.out (by exact (HM.out.bel B8.out).bel hHeld) CLO.out AO.out.obW AO.out.lv AO.out.lvn CLC.out).mono ?_
            rintro e w8q ⟨rv, rfl, hr5, hb5⟩
            rw [HRES.out] at hr5
            obtain ⟨a9, b9, c9, d9, rfl⟩ := hr5.form
            have hS5 := hHeld.size
            refine hK.out _ _ (bel_trans hHeld hb5) (fun hHeld2 => ?_)
            first | (have RI := hidI (ap_keep2 NB.out hr5 hS5)) | (have RI := hidI (ap_plain2 hr5 hS5))
            try replace NB := hidI (box_bel hb5 NB.out)
            have CALLED : Hid True := hidI trivial
            clear hb5 hr5 hS5
            clear hK K
            replace hHeld := hHeld2
            clear hHeld2
            try simp only [Act.put, List.setIfInBounds_toArray, List.set_cons_zero, List.set_cons_succ]
            try rw [show (World.drew w8).heap.size = w8.heap.size from rfl] at NB
            obtain ⟨n0, n1, n2, n3, n4, m0, m1, m2, m3, m4⟩ := NB.out.c
            first | (have c9 := FINA.out; clear c9) | (have FINB := hidI (ap_put hHeld HG.out NB.out RI.out))
            refine wpAnyT_last (i := 10) (o := _) (by kernel_rfl) (by rfl) rfl (fun K hK => ?_)
            go_simp
            refine hK.out _ _ ?_
            clear hK K
            try simp only [Act.put, List.setIfInBounds_toArray, List.set_cons_zero, List.set_cons_succ]
            refine wpAnyT_done (by kernel_rfl) ?_ _
            go_wp2_with fail
            go_meet
            case rel => first | exact ⟨_, _, _, _, _, rfl, FINA.out⟩ | exact ⟨_, _, _, _, _, rfl, FINB.out⟩
          exact AllReadyT.nil
        exact AllReadyT.nil
      exact AllReadyT.nil
    refine AllReadyT.cons (i := 9) (o := _) rfl (fun K hK => ?_) ?_
    · go_simp
      refine hK.out _ _ (bel_trans hHeld (bel_alloc _ _)) (fun hHeld2 => ?_)
      have NB := hidI (ap_znew hHeld)
      have HG := hidI hHeld.size
      try replace HADS := hidI (HADS.out.bel (bel_alloc _ (.cells #[.int .i64 0, .int .i64 0, .string ⟨#[]⟩, .slice none 0 0, .slice none 0 0] 25)))
      first | (have c9 := CALLED.out; clear c9; have FINA := hidI (ap_new hHeld RI.out)) | (replace CLI := hidI (ap_low CLI.out (.cells #[.int .i64 0, .int .i64 0, .string ⟨#[]⟩, .slice none 0 0, .slice none 0 0] 25))) | skip
      clear hK K
      replace hHeld := hHeld2
      clear hHeld2
      try simp only [Act.put, List.setIfInBounds_toArray, List.set_cons_zero, List.set_cons_succ]
      refine wpAnyT_ready (rs := [5]) (by kernel_rfl) (by simp) ?_
      refine AllReadyT.cons (i := 5) (o := _) rfl (fun K hK => ?_) ?_
      · go_simp
        refine (pathsOf_at _ (fun k => ok k ∧ k < w.heap.size) l _ who (by exact (HL.out.bel B8.out).bel hHeld) AO.out.rises (by have := AO.out.len; omega)).mono ?_
        rintro e w5q ⟨pa, pc, rfl, hst, hb5⟩
        refine hK.out _ _ (bel_trans hHeld hb5) (fun hHeld2 => ?_)
        have HADS := hidI hst
        try replace NB := hidI (box_bel hb5 NB.out)
        clear hb5 hst
        clear hK K
        replace hHeld := hHeld2
        clear hHeld2
        try simp only [Act.put, List.setIfInBounds_toArray, List.set_cons_zero, List.set_cons_succ]
        refine wpAnyT_ready (rs := [7]) (by kernel_rfl) (by simp) ?_
        refine AllReadyT.cons (i := 7) (o := _) rfl (fun K hK => ?_) ?_
        · go_simp
          refine (cleared_at _ (fun k => okN (fun k => okN (fun k => ok k ∧ k < w.heap.size) w5.heap.size k ∧ k < W7.heap.size) w8.heap.size k ∧ k < w8.heap.size) (fun k => ok k ∧ k < w.heap.size) (fun k => W7.heap.size ≤ k) want t (leavesF want) (pathsOfF l who) (othersF t want l who) _ _ _ _ (by exact WI8.out.bel hHeld) (by exact ((HT.out.bel B8.out).bel hHeld).weak fun k hk => ⟨.inl ⟨.inl hk, Nat.lt_of_lt_of_le hk.2 B7.out.size⟩, Nat.lt_of_lt_of_le hk.2 B8.out.size⟩) (by exact HADS.out) (by exact OW8.out.bel hHeld) (by exact (HM.out.bel B8.out).bel hHeld) AO.out.obT AO.out.k5 AO.out.had (leaves_rise want).1 (leaves_rise want).2 AO.out.cT).mono ?_
          rintro e w7q ⟨rv, rfl, hr5, hb5, ho5, hc5, -⟩
          rw [HCL.out] at hr5 ho5 hc5
          obtain ⟨a6, b6, c6, d6, rfl⟩ := hr5.form
          have CLO := hidI ho5
          have CLC := hidI hc5
          have hS5 := hHeld.size
          refine hK.out _ _ (bel_trans hHeld hb5) (fun hHeld2 => ?_)
          first | (have CLI := hidI (ap_keep NB.out hr5 HG.out hS5)) | (have CLI := hidI (ap_plain hr5 hS5))
          try replace NB := hidI (box_bel hb5 NB.out)
          clear hb5 hr5 ho5 hc5 hS5
          clear hK K
          replace hHeld := hHeld2
          clear hHeld2
          try simp only [Act.put, List.setIfInBounds_toArray, List.set_cons_zero, List.set_cons_succ]
          refine wpAnyT_ready (rs := [8]) (by kernel_rfl) (by simp) ?_
          refine AllReadyT.cons (i := 8) (o := _) rfl (fun K hK => ?_) ?_
          · go_simp
            refine (laidInto_at _ _ want cl (leavesF want) _ _ (by first | exact ap_wishg WI8.out hHeld HG.out | exact ap_wish WI8.out hHeld) CLI.out (by exact (HM.out.bel B8.out).bel hHeld) CLO.out AO.out.obW AO.out.lv AO.out.lvn CLC.out).mono ?_
            rintro e w8q ⟨rv, rfl, hr5, hb5⟩
            rw [HRES.out] at hr5
            obtain ⟨a9, b9, c9, d9, rfl⟩ := hr5.form
            have hS5 := hHeld.size
            refine hK.out _ _ (bel_trans hHeld hb5) (fun hHeld2 => ?_)
            first | (have RI := hidI (ap_keep2 NB.out hr5 hS5)) | (have RI := hidI (ap_plain2 hr5 hS5))
            try replace NB := hidI (box_bel hb5 NB.out)
            have CALLED : Hid True := hidI trivial
            clear hb5 hr5 hS5
            clear hK K
            replace hHeld := hHeld2
            clear hHeld2
            try simp only [Act.put, List.setIfInBounds_toArray, List.set_cons_zero, List.set_cons_succ]
            try rw [show (World.drew w8).heap.size = w8.heap.size from rfl] at NB
            obtain ⟨n0, n1, n2, n3, n4, m0, m1, m2, m3, m4⟩ := NB.out.c
            first | (have c9 := FINA.out; clear c9) | (have FINB := hidI (ap_put hHeld HG.out NB.out RI.out))
            refine wpAnyT_last (i := 10) (o := _) (by kernel_rfl) (by rfl) rfl (fun K hK => ?_)
            go_simp
            refine hK.out _ _ ?_
            clear hK K
            try simp only [Act.put, List.setIfInBounds_toArray, List.set_cons_zero, List.set_cons_succ]
            refine wpAnyT_done (by kernel_rfl) ?_ _
            go_wp2_with fail
            go_meet
            case rel => first | exact ⟨_, _, _, _, _, rfl, FINA.out⟩ | exact ⟨_, _, _, _, _, rfl, FINB.out⟩
          exact AllReadyT.nil
        exact AllReadyT.nil
      exact AllReadyT.nil
    exact AllReadyT.nil
  case rest =>
    obtain ⟨g7, a9, b9, c9, d9, rfl, hcW, hcG, hcB, hcI⟩ := hcut
    have BC := hidI (bel_trans B8.out hcB)
    have YC := hidI (bel_trans Y8.out hcB)
    have CI := hidI hcI
    have CW := hidI hcW
    have CB := hidI hcB
    have CG := hidI hcG
    clear hcW hcG hcB hcI
    have S7 : Hid (w.heap.size + 4 ≤ w5.heap.size ∧ w5.heap.size ≤ W7.heap.size ∧ W7.heap.size ≤ w8.heap.size) := hidI ⟨Nat.le_trans SW.out Y5.out.size, Nat.le_trans Y56.out.size Y7.out.size, B78.out.size⟩
    obtain ⟨nw, hnw⟩ : ∃ nw, (withOwnF (othersF t want l who) ⟨who, leavesF want⟩).length = nw := ⟨_, rfl⟩
    have WOW : Hid (Calls Tryz.prog 29 #[.slice oa (othersF t want l who).length oc, .agg #[.string ⟨who.toArray⟩, .slice x3 (leavesF want).length y3]] wc fun e w' => ∃ a c, e = .returned (.slice a nw c) ∧ OwnsAre w' (fun k => W7.heap.size ≤ k ∨ (fun k => okN (fun k => ok k ∧ k < w.heap.size) w5.heap.size k ∧ k < W7.heap.size) k) (withOwnF (othersF t want l who) ⟨who, leavesF want⟩) (.slice a nw c) ∧ wc.grownBy w' (Value.ownBlock (.slice oa (othersF t want l who).length oc))) := hidI (by
      have hq := withOwner_at wc W7.heap.size (othersF t want l who) (.slice oa (othersF t want l who).length oc) ⟨who, leavesF want⟩ x3 y3 (fun k => okN (fun k => ok k ∧ k < w.heap.size) w5.heap.size k ∧ k < W7.heap.size) (ORW.out.bel CB.out) AO.out.named AO.out.risesO AO.out.lenO (Nat.le_trans B78.out.size CB.out.size) (by unfold maxLen; show who.length ≤ _; omega) ((wish_strs WI7.out).bel B78.out |>.bel CB.out) (fun k hk e => by have h9 := (ORW.out.lt k e.symm).1; have h8 := hk.2; omega)
      rw [hnw] at hq
      exact hq)
    have HNW := hidI hnw
    clear hnw
    obtain ⟨q0, q1, q2, q3, q4, q5⟩ := box6 (blk_bel CB.out XW8.out)
    have u0 := cell_bel CB.out NC8.out
    go_upto_region 10 with (go_at_call 29; refine WOW.out.mono ?_; rintro e w9 ⟨wa, wk, rfl, how, hgw⟩; have OW9 := hidI how; have GW := hidI hgw; clear how hgw)
    clear q0 q1 q2 q3 q4 q5 u0
    have FAR : Hid (∀ g, Value.ownBlock (.slice oa (othersF t want l who).length oc) = some g → W7.heap.size ≤ g ∧ g < w8.heap.size) := hidI (fun g hg => ORW.out.lt g hg)
    have Y9 : Hid (Below W3.heap.size W3 w9) := hidI (gb_far YC.out GW.out fun g hg => by have h9 := (FAR.out g hg).1; have h8 := S7.out; have h7 := Y5.out.size; omega)
    have B9 := hidI (bel_trans BW.out Y9.out)
    have RB9 : Hid (BoxIs w9 g7 (.int .i64 res.kind) (.int .i64 res.n) (.string ⟨res.s.toArray⟩) (.slice a9 res.keys.length c9) (.slice b9 res.l.length d9)) := hidI (by
      have h9 := (Array.getElem?_eq_some_iff.1 CW.out).1
      exact (GW.out.block g7 h9 fun e => by have h8 := (FAR.out g7 e.symm).2; have h7 := CG.out; omega).trans CW.out)
    have RI9 : Hid (In w9 (okN (fun k => okN (fun k => ok k ∧ k < w.heap.size) w5.heap.size k ∧ k < W7.heap.size) w8.heap.size) res (.agg #[.int .i64 res.kind, .int .i64 res.n, .string ⟨res.s.toArray⟩, .slice a9 res.keys.length c9, .slice b9 res.l.length d9])) := hidI (CI.out.grownR GW.out fun k hk e => by
      have h8 := FAR.out k e.symm
      rcases hk with hk | hk
      · have := hk.2; omega
      · omega)
    have OKF : Hid (∀ k, (okN (fun k => okN (fun k => ok k ∧ k < w.heap.size) w5.heap.size k ∧ k < W7.heap.size) w8.heap.size) k → k ≠ w.heap.size + 3) := hidI (fun k hk => by
      have h8 := S7.out
      rcases hk with ⟨hk | hk, -⟩ | hk
      · have := hk.2; omega
      · omega
      · omega)
    have OKS : Hid (∀ k, (okN (fun k => okN (fun k => ok k ∧ k < w.heap.size) w5.heap.size k ∧ k < W7.heap.size) w8.heap.size) k → okN ok w.heap.size k) := hidI (fun k hk => by
      have h8 := S7.out
      rcases hk with ⟨hk | hk, -⟩ | hk
      · exact .inl hk.1
      · exact .inr (by omega)
      · exact .inr (by omega))
    have OKF2 : Hid (∀ k, (W7.heap.size ≤ k ∨ (fun k => okN (fun k => ok k ∧ k < w.heap.size) w5.heap.size k ∧ k < W7.heap.size) k) → k ≠ w.heap.size + 3) := hidI (fun k hk => by
      have h8 := S7.out
      rcases hk with hk | ⟨hk | hk, -⟩
      · omega
      · have := hk.2; omega
      · omega)
    have OKS2 : Hid (∀ k, (W7.heap.size ≤ k ∨ (fun k => okN (fun k => ok k ∧ k < w.heap.size) w5.heap.size k ∧ k < W7.heap.size) k) → okN ok w.heap.size k) := hidI (fun k hk => by
      have h8 := S7.out
      rcases hk with hk | ⟨hk | hk, -⟩
      · exact .inr (by omega)
      · exact .inl hk.1
      · exact .inr (by omega))
    have GR : Hid (Calls Tryz.prog 13 #[.agg #[.int .i64 res.kind, .int .i64 res.n, .string ⟨res.s.toArray⟩, .slice a9 res.keys.length c9, .slice b9 res.l.length d9]] w9 fun e w' => e = .returned (.bool (goodV res)) ∧ Below w9.heap.size w9 w') := hidI (good_is w9 _ res _ RI9.out)
    obtain ⟨q0, q1, q2, q3, q4, -⟩ := RB9.out.c
    have HRR : Hid (applyF t l who want force = if goodV res = true ∧ nw ≤ 6 then (res, withOwnF (othersF t want l who) ⟨who, leavesF want⟩, [], 0) else (t, l, [], 2)) := hidI (by
      rw [RA.out, HRF.out, HNW.out])
    cases hgv : goodV res with
    | false =>
      have R : Hid (applyF t l who want force = (t, l, [], 2)) := hidI (by rw [HRR.out, if_neg (by rw [hgv]; simp)])
      rw [hgv] at GR
      clear hgv
      go_upto_region 11 with (go_at_call 13; refine GR.out.mono ?_; rintro e w10 ⟨rfl, hb⟩; have Y10 := hidI (bel_trans Y9.out hb); have B10 := hidI (bel_trans B9.out hb); clear hb)
      clear q0 q1 q2 q3 q4
      obtain ⟨v0, v1, v2, v3, v4, -⟩ := (box_bel Y10.out X1.out).c
      obtain ⟨n0, n1, n2, n3, n4, m0, m1, m2, m3, m4⟩ := (box_bel Y10.out X4.out).c
      have ZB := hidI ((box_bel Y10.out X4.out).set (.int .i64 t.kind) (.int .i64 t.n) (.string ⟨t.s.toArray⟩) (.slice b1 t.keys.length d1) (.slice b2 t.l.length d2))
      have BF := hidI (bel_set5 (g := w.heap.size + 3) B10.out (by omega) (.int .i64 t.kind) (.int .i64 t.n) (.string ⟨t.s.toArray⟩) (.slice b1 t.keys.length d1) (.slice b2 t.l.length d2))
      go_wp2_with fail
      obtain ⟨z0, z1, z2, z3, z4, -⟩ := ZB.out.c
      refine bodyPost_ret (v := .tuple #[.agg #[.int .i64 t.kind, .int .i64 t.n, .string ⟨t.s.toArray⟩, .slice b1 t.keys.length d1, .slice b2 t.l.length d2], .slice la l.length lc, .slice none 0 0, .int .i64 2]) ?_ rfl ?_
      · simp only [set5] at z0 z1 z2 z3 z4
        simp [results, Tryz.results6, go_sem, z0, z1, z2, z3, z4]
      · rw [ApplyIs, R.out]
        exact ⟨_, _, _, rfl, (HT.out.belB (fun k h => h.2) BF.out).weak fun k h => .inl h.1, (HL.out.belB (fun k h => h.2) BF.out).weak fun k h => .inl h.1, World.ownsRow_nil _ _ _ _, BF.out⟩

    | true =>
      rw [hgv] at GR
      by_cases h6 : nw ≤ 6
      · have RR : Hid (applyF t l who want force = (res, withOwnF (othersF t want l who) ⟨who, leavesF want⟩, [], 0)) := hidI (by rw [HRR.out, if_pos ⟨hgv, h6⟩])
        have q6 : ¬ (6 : Int) < (nw : Int) := by omega
        clear hgv h6
        go_upto_region 12 with (go_at_call 13; refine GR.out.mono ?_; rintro e w10 ⟨rfl, hb⟩; have Y10 := hidI (bel_trans Y9.out hb); have B10 := hidI (bel_trans B9.out hb); have RB10 := hidI (box_bel hb RB9.out); have RI10 := hidI (RI9.out.bel hb); have OW10 := hidI (OW9.out.bel hb); clear hb)
        clear q0 q1 q2 q3 q4 q6
        obtain ⟨v0, v1, v2, v3, v4, -⟩ := RB10.out.c
        obtain ⟨n0, n1, n2, n3, n4, m0, m1, m2, m3, m4⟩ := (box_bel Y10.out X4.out).c
        have ZB := hidI ((box_bel Y10.out X4.out).set (.int .i64 res.kind) (.int .i64 res.n) (.string ⟨res.s.toArray⟩) (.slice a9 res.keys.length c9) (.slice b9 res.l.length d9))
        have BF := hidI (bel_set5 (g := w.heap.size + 3) B10.out (by omega) (.int .i64 res.kind) (.int .i64 res.n) (.string ⟨res.s.toArray⟩) (.slice a9 res.keys.length c9) (.slice b9 res.l.length d9))
        have GF := hidI (set5_gb w10 (w.heap.size + 3) (.int .i64 res.kind) (.int .i64 res.n) (.string ⟨res.s.toArray⟩) (.slice a9 res.keys.length c9) (.slice b9 res.l.length d9))
        go_wp2_with fail
        obtain ⟨z0, z1, z2, z3, z4, -⟩ := ZB.out.c
        refine bodyPost_ret (v := .tuple #[.agg #[.int .i64 res.kind, .int .i64 res.n, .string ⟨res.s.toArray⟩, .slice a9 res.keys.length c9, .slice b9 res.l.length d9], .slice wa nw wk, .slice none 0 0, .int .i64 0]) ?_ rfl ?_
        · simp only [set5] at z0 z1 z2 z3 z4
          simp [results, Tryz.results6, go_sem, z0, z1, z2, z3, z4]
        · rw [ApplyIs, RR.out]
          refine ⟨_, _, _, rfl, (RI10.out.grownR GF.out fun k hk e => ?_).weak fun k hk => ?_, (OW10.out.grownR GF.out fun k hk e => ?_).weak fun k hk => ?_, World.ownsRow_nil _ _ _ _, BF.out⟩
          · cases e; exact OKF.out _ hk rfl
          · exact OKS.out _ hk
          · cases e; exact OKF2.out _ hk rfl
          · exact OKS2.out _ hk

      · have R : Hid (applyF t l who want force = (t, l, [], 2)) := hidI (by rw [HRR.out, if_neg (by intro h; exact h6 h.2)])
        have q6 : (6 : Int) < (nw : Int) := by omega
        clear hgv h6
        go_upto_region 11 with (go_at_call 13; refine GR.out.mono ?_; rintro e w10 ⟨rfl, hb⟩; have Y10 := hidI (bel_trans Y9.out hb); have B10 := hidI (bel_trans B9.out hb); clear hb)
        clear q0 q1 q2 q3 q4 q6
        obtain ⟨v0, v1, v2, v3, v4, -⟩ := (box_bel Y10.out X1.out).c
        obtain ⟨n0, n1, n2, n3, n4, m0, m1, m2, m3, m4⟩ := (box_bel Y10.out X4.out).c
        have ZB := hidI ((box_bel Y10.out X4.out).set (.int .i64 t.kind) (.int .i64 t.n) (.string ⟨t.s.toArray⟩) (.slice b1 t.keys.length d1) (.slice b2 t.l.length d2))
        have BF := hidI (bel_set5 (g := w.heap.size + 3) B10.out (by omega) (.int .i64 t.kind) (.int .i64 t.n) (.string ⟨t.s.toArray⟩) (.slice b1 t.keys.length d1) (.slice b2 t.l.length d2))
        go_wp2_with fail
        obtain ⟨z0, z1, z2, z3, z4, -⟩ := ZB.out.c
        refine bodyPost_ret (v := .tuple #[.agg #[.int .i64 t.kind, .int .i64 t.n, .string ⟨t.s.toArray⟩, .slice b1 t.keys.length d1, .slice b2 t.l.length d2], .slice la l.length lc, .slice none 0 0, .int .i64 2]) ?_ rfl ?_
        · simp only [set5] at z0 z1 z2 z3 z4
          simp [results, Tryz.results6, go_sem, z0, z1, z2, z3, z4]
        · rw [ApplyIs, R.out]
          exact ⟨_, _, _, rfl, (HT.out.belB (fun k h => h.2) BF.out).weak fun k h => .inl h.1, (HL.out.belB (fun k h => h.2) BF.out).weak fun k h => .inl h.1, World.ownsRow_nil _ _ _ _, BF.out⟩

set_option maxRecDepth 100000 in
set_option maxHeartbeats 4000000 in
theorem apply_force (w : World) (ok : Nat → Prop) (t want : V) (l : List Own) (who : List UInt8) (force : Bool) (vt vl vw : Value) (ht : In w ok t vt) (hl : OwnsAre w ok l vl) (hw : In w ok want vw) (hM : GlobM w) (hN : (allOf l).length ≤ 4000000) (hP : ∀ o ∈ l, ∀ x ∈ o.paths, x.length ≤ 140737488351232) (hwho : who.length ≤ 9223372036854775807) (hg1 : (decide (t.kind = 5) && goodV t) = true) (hg2 : (decide (want.kind = 5) && goodV want) = true) (hg3 : goodOs l = true) (hg4 : namedB who = true) (hf : foundF (blockedF want t (leavesF want)) who l ≠ []) (hfo : force = true) (hao : ApplyOk t want l who) :
    Calls Tryz.prog 6 #[vt, vl, .string ⟨who.toArray⟩, vw, .bool force] w fun e w' => ApplyIs w w' ok (applyF t l who want force) e := by
  have AO := hidI hao
  have CC : Hid (confF t l who want = foundF (blockedF want t (leavesF want)) who l) := hidI (by rw [confF, if_pos ⟨by simpa using (Bool.and_eq_true_iff.1 hg1).2, hg3⟩])
  obtain ⟨nf, hnf⟩ : ∃ nf, (foundF (blockedF want t (leavesF want)) who l).length = nf := ⟨_, rfl⟩
  have NF := hidI hnf
  have RA : Hid (applyF t l who want force = if goodV (resultF t want l who) = true ∧ (withOwnF (othersF t want l who) ⟨who, leavesF want⟩).length ≤ 6 then (resultF t want l who, withOwnF (othersF t want l who) ⟨who, leavesF want⟩, [], 0) else (t, l, [], 2)) := hidI (by
    unfold applyF
    rw [if_pos ⟨by simpa using hg1, by simpa using hg2, hg3, hg4⟩, if_neg (by intro h; rw [hfo] at h; exact absurd h.2 (by simp))])
  have q0 : (0 : Int) < (nf : Int) := by
    have : nf ≠ 0 := fun e => hf (List.length_eq_zero_iff.1 (hnf.trans e))
    omega
  subst hfo
  clear hnf hao
  have HT := hidI ht.low
  have HL := hidI hl.low
  have HW := hidI hw.low
  have HM := hidI hM
  have HN := hidI hN
  have HP := hidI hP
  obtain ⟨b1, b2, d1, d2, rfl⟩ := ht.form
  obtain ⟨a1, a2, c1, c2, rfl⟩ := hw.form
  obtain ⟨la, lc, rfl⟩ := hl.form
  have ll := hl.1
  unfold maxLen at ll
  clear ht hl hw hM hN hP
  obtain ⟨W3, hW3⟩ : ∃ W, W = (((w.alloc (.cells #[.int .i64 t.kind, .int .i64 t.n, .string ⟨t.s.toArray⟩, .slice b1 t.keys.length d1, .slice b2 t.l.length d2] 25)).alloc (.cells #[.string ⟨who.toArray⟩] 9)).alloc (.cells #[.int .i64 want.kind, .int .i64 want.n, .string ⟨want.s.toArray⟩, .slice a1 want.keys.length c1, .slice a2 want.l.length c2] 25)).alloc (.cells #[.int .i64 0, .int .i64 0, .string ⟨#[]⟩, .slice none 0 0, .slice none 0 0] 25) := ⟨_, rfl⟩
  have BW : Hid (Below w.heap.size w W3) := hidI (by rw [hW3]; exact bel_trans (bel_trans (bel_trans (bel_alloc _ _) (bel_alloc _ _)) (bel_alloc _ _)) (bel_alloc _ _))
  have X1 : Hid (BoxIs W3 w.heap.size (.int .i64 t.kind) (.int .i64 t.n) (.string ⟨t.s.toArray⟩) (.slice b1 t.keys.length d1) (.slice b2 t.l.length d2)) := hidI (by rw [hW3]; exact h4z _ _ _ _ _ (h3a _ _ _ _))
  have X2 : Hid (W3.heap[w.heap.size + 1]? = some (.cells #[.string ⟨who.toArray⟩] 9)) := hidI (by rw [hW3]; exact h4z _ _ _ _ _ (h3b _ _ _ _))
  have X3 : Hid (BoxIs W3 (w.heap.size + 2) (.int .i64 want.kind) (.int .i64 want.n) (.string ⟨want.s.toArray⟩) (.slice a1 want.keys.length c1) (.slice a2 want.l.length c2)) := hidI (by rw [hW3]; exact h4z _ _ _ _ _ (h3c _ _ _ _))
  have X4 : Hid (BoxIs W3 (w.heap.size + 3) (.int .i64 0) (.int .i64 0) (.string ⟨#[]⟩) (.slice none 0 0) (.slice none 0 0)) := hidI (by rw [hW3]; exact h4dO _ _ _ _ _)
  have HW3 := hidI hW3
  clear hW3
  have G1 : Hid (∀ W, Below w.heap.size w W → Calls Tryz.prog 19 #[.agg #[.int .i64 t.kind, .int .i64 t.n, .string ⟨t.s.toArray⟩, .slice b1 t.keys.length d1, .slice b2 t.l.length d2]] W fun e w' => e = .returned (.bool (decide (t.kind = 5) && goodV t)) ∧ Below W.heap.size W w') := hidI (fun W hW => goodObject_at W _ t _ (HT.out.bel hW))
  have G2 : Hid (∀ W, Below w.heap.size w W → Calls Tryz.prog 19 #[.agg #[.int .i64 want.kind, .int .i64 want.n, .string ⟨want.s.toArray⟩, .slice a1 want.keys.length c1, .slice a2 want.l.length c2]] W fun e w' => e = .returned (.bool (decide (want.kind = 5) && goodV want)) ∧ Below W.heap.size W w') := hidI (fun W hW => goodObject_at W _ want _ (HW.out.bel hW))
  have G3 : Hid (∀ W, Below w.heap.size w W → Calls Tryz.prog 12 #[.slice la l.length lc] W fun e w' => e = .returned (.bool (goodOs l)) ∧ Below W.heap.size W w') := hidI (fun W hW => goodOwners_at W _ l _ (HL.out.bel hW) HP.out (HM.out.bel hW))
  have G4 : Hid (∀ W, Below w.heap.size w W → Calls Tryz.prog 20 #[.string ⟨who.toArray⟩] W fun e w' => e = .returned (.bool (namedB who)) ∧ Below W.heap.size W w') := hidI (fun W _ => (named_at W who hwho).mono fun e w' h => ⟨h.1, h.2 ▸ Below.refl _ _⟩)
  have SW : Hid (w.heap.size + 4 ≤ W3.heap.size) := hidI (by have := (Array.getElem?_eq_some_iff.1 X4.out).1; omega)
  rw [hg1] at G1
  rw [hg2] at G2
  rw [hg3] at G3
  rw [hg4] at G4
  clear hg1 hg2 hg3 hg4
  obtain ⟨o0, o1, o2, o3, o4, -⟩ := X1.out.c
  go_enter Tryz.func6, Tryz.ntmps6
  go_upto_region 1 with fail
  rw [← HW3.out]
  go_upto_region 3 with (first
      | (go_at_call 20; refine (G4.out _ B3.out).mono ?_; rintro e w4 ⟨rfl, hb⟩; have B4 := hidI (bel_trans B3.out hb); have Y4 := hidI (bel_trans Y3.out hb); clear hb; skip)
      | (go_at_call 12; refine (G3.out _ B2.out).mono ?_; rintro e w3 ⟨rfl, hb⟩; have B3 := hidI (bel_trans B2.out hb); have Y3 := hidI (bel_trans Y2.out hb); clear hb; have u0 : w3.cell? ⟨w.heap.size + 1, 0, none⟩ = some (.string ⟨who.toArray⟩) := (by have h9 := blk_bel Y3.out X2.out; simp [World.cell?, h9]); skip)
      | (go_at_call 19; refine (G2.out _ B1.out).mono ?_; rintro e w2 ⟨rfl, hb⟩; have B2 := hidI (bel_trans B1.out hb); have Y2 := hidI (bel_trans Y1.out hb); clear hb; skip)
      | (go_at_call 19; refine (G1.out _ BW.out).mono ?_; rintro e w1 ⟨rfl, hb⟩; have B1 := hidI (bel_trans BW.out hb); have Y1 := hidI hb; clear hb; obtain ⟨p0, p1, p2, p3, p4, -⟩ := (box_bel Y1.out X3.out).c; skip))
  clear o0 o1 o2 o3 o4 p0 p1 p2 p3 p4 u0
  obtain ⟨o0, o1, o2, o3, o4, -⟩ := (box_bel Y4.out X1.out).c
  obtain ⟨p0, p1, p2, p3, p4, -⟩ := (box_bel Y4.out X3.out).c
  have u0 : w4.cell? ⟨w.heap.size + 1, 0, none⟩ = some (.string ⟨who.toArray⟩) := (by have h9 := blk_bel Y4.out X2.out; simp [World.cell?, h9])
  have CF : Hid (Calls Tryz.prog 21 #[.agg #[.int .i64 t.kind, .int .i64 t.n, .string ⟨t.s.toArray⟩, .slice b1 t.keys.length d1, .slice b2 t.l.length d2], .slice la l.length lc, .string ⟨who.toArray⟩, .agg #[.int .i64 want.kind, .int .i64 want.n, .string ⟨want.s.toArray⟩, .slice a1 want.keys.length c1, .slice a2 want.l.length c2]] w4 fun e w' => ∃ ra rc, e = .returned (.slice ra nf rc) ∧ w'.ownsRow w4.heap.size 85 2 (.slice ra nf rc) (foundF (blockedF want t (leavesF want)) who l).length (cCells (foundF (blockedF want t (leavesF want)) who l)) ∧ Below w4.heap.size w4 w') := hidI (by
    refine (conflicts_at w4 _ _ _ t want l who _ _ _ (HT.out.bel B4.out) (HL.out.bel B4.out) (HW.out.bel B4.out) (HM.out.bel B4.out) HN.out HP.out).mono ?_
    rintro e w' ⟨r, rfl, h1, h2⟩
    rw [CC.out] at h1
    rcases h1.2 with ⟨rfl, h9⟩ | ⟨g, cap, cur, rfl, h9⟩
    · exact ⟨none, 0, by rw [← NF.out, h9], by rw [← NF.out]; rw [h9] at h1 ⊢; exact h1, h2⟩
    · exact ⟨_, _, by rw [NF.out], by rw [← NF.out]; exact h1, h2⟩)
  go_upto_region 6 with (go_at_call 21; refine CF.out.mono ?_; rintro e w5 ⟨ra, rc, rfl, hrow, hb⟩; have B5 := hidI (bel_trans B4.out hb); have Y5 := hidI (bel_trans Y4.out hb); have ROW := hidI hrow; have S4 := hidI (Nat.le_trans (show w.heap.size + 4 ≤ W3.heap.size from SW.out) Y4.out.size); clear hb hrow)
  clear o0 o1 o2 o3 o4 p0 p1 p2 p3 p4 u0 q0
  obtain ⟨p0, p1, p2, p3, p4, -⟩ := (box_bel Y5.out X3.out).c
  have WO := hidI (wishOf_at w5 (fun k => ok k ∧ k < w.heap.size) want _ (by exact HW.out.bel B5.out) (HM.out.bel B5.out))
  go_upto_region 7 with (go_at_call 22; refine WO.out.mono ?_; rintro e w6 ⟨r, rfl, hwi, hb⟩; have B6 := hidI (bel_trans B5.out hb); have Y6 := hidI (bel_trans Y5.out hb); have WI := hidI hwi; have Y56 := hidI hb; clear hb; obtain ⟨x1, x2, x3, y1, y2, y3, rfl, -, -⟩ := hwi)
  clear p0 p1 p2 p3 p4
  obtain ⟨W7, hW7⟩ : ∃ W, W = w6.alloc (.cells #[.int .i64 want.kind, .int .i64 want.n, .string ⟨want.s.toArray⟩, .slice x1 want.keys.length y1, .slice x2 want.l.length y2, .slice x3 (leavesF want).length y3] 53) := ⟨_, rfl⟩
  have Y7 : Hid (Below w6.heap.size w6 W7) := hidI (by rw [hW7]; exact bel_alloc _ _)
  have X7 : Hid (W7.heap[w6.heap.size]? = some (.cells #[.int .i64 want.kind, .int .i64 want.n, .string ⟨want.s.toArray⟩, .slice x1 want.keys.length y1, .slice x2 want.l.length y2, .slice x3 (leavesF want).length y3] 53)) := hidI (by rw [hW7]; exact heap_alloc_new _ _)
  have B7 := hidI (bel_trans B6.out Y7.out)
  rw [← hW7]
  clear hW7
  have CAP : Hid (CapI W7 (okN (fun k => ok k ∧ k < w.heap.size) w5.heap.size) (fun k => ok k ∧ k < w.heap.size) who want t (leavesF want) (w.heap.size + 1) w6.heap.size w.heap.size x1 x2 x3 b1 b2 y1 y2 y3 d1 d2) := hidI ⟨by
    have h9 := blk_bel (bel_trans Y6.out Y7.out) X2.out
    simp [World.cell?, h9], X7.out, box_bel (bel_trans Y6.out Y7.out) X1.out, WI.out.bel Y7.out, HT.out.bel B7.out, HM.out.bel B7.out, by have := AO.out.cT; omega, (leaves_rise want).1, (leaves_rise want).2⟩
  have WI7 : Hid (WishIs W7 (fun k => okN (fun k => ok k ∧ k < w.heap.size) w5.heap.size k ∧ k < W7.heap.size) want (leavesF want) (.agg #[.int .i64 want.kind, .int .i64 want.n, .string ⟨want.s.toArray⟩, .slice x1 want.keys.length y1, .slice x2 want.l.length y2, .slice x3 (leavesF want).length y3])) := hidI (wish_low9 (WI.out.bel Y7.out))
  have KEPT := hidI (kept_at W7 (fun k => ok k ∧ k < w.heap.size) l _ 24 #[.pointer (some ⟨w.heap.size + 1, 0, none⟩), .pointer (some ⟨w6.heap.size, 0, none⟩), .pointer (some ⟨w.heap.size, 0, none⟩)] (fun n p => n != who && !blockedF want t (leavesF want) p) apply1_enters
    (fun W n p hW hnp => apply1_at W _ _ who want t (leavesF want) _ _ _ _ _ _ _ _ _ _ _ _ _ n p (CAP.out.bel hW) (by obtain ⟨o, ho, -, hx⟩ := allOf_mem hnp; exact HP.out o ho _ hx)) (HL.out.bel B7.out) AO.out.rises HN.out (fun o ho x hx => by have := HP.out o ho x hx; unfold maxLen; omega))
  rw [show keptF (fun n p => n != who && !blockedF want t (leavesF want) p) l = othersF t want l who from rfl] at KEPT
  go_upto_region 8 with (go_at_call 23; refine KEPT.out.mono ?_; rintro e w8 ⟨oa, oc, rfl, hrow, hb⟩; have Y8 := hidI (bel_trans (bel_trans Y6.out Y7.out) hb); have B8 := hidI (bel_trans B7.out hb); have ORW := hidI hrow; have B78 := hidI hb; clear hb hrow)
  have VB8 := hidI (box_bel Y8.out X1.out)
  have RB8 := hidI (box_bel Y8.out X4.out)
  have XW8 := hidI (blk_bel B78.out X7.out)
  have NC8 : Hid (w8.cell? ⟨w.heap.size + 1, 0, none⟩ = some (.string ⟨who.toArray⟩)) := hidI (by have h9 := blk_bel Y8.out X2.out; simp [World.cell?, h9])
  have OW8 := hidI (ORW.out.owns AO.out.named)
  have WI8 : Hid (WishIs w8 (fun k => okN (fun k => okN (fun k => ok k ∧ k < w.heap.size) w5.heap.size k ∧ k < W7.heap.size) w8.heap.size k ∧ k < w8.heap.size) want (leavesF want) (.agg #[.int .i64 want.kind, .int .i64 want.n, .string ⟨want.s.toArray⟩, .slice x1 want.keys.length y1, .slice x2 want.l.length y2, .slice x3 (leavesF want).length y3])) := hidI ((WI7.out.bel B78.out).weak fun k hk => ⟨.inl hk, Nat.lt_of_lt_of_le hk.2 B78.out.size⟩)
  obtain ⟨cl, hcl⟩ : ∃ cl, clearedF (leavesF want) (othersF t want l who) (pathsOfF l who) t = cl := ⟨_, rfl⟩
  have HCL := hidI hcl
  obtain ⟨res, hres⟩ : ∃ res, laidAllF want (leavesF want) cl = res := ⟨_, rfl⟩
  have HRES := hidI hres
  have HRF : Hid (resultF t want l who = res) := hidI (by rw [← hres, ← hcl]; rfl)
  clear hcl hres
  go_cut [17] (fun pv wc => ∃ (g7 : Nat) (a9 b9 : Option Addr) (c9 d9 : Nat), pv = .pointer (some ⟨g7, 0, none⟩) ∧ (BoxIs wc g7 (.int .i64 res.kind) (.int .i64 res.n) (.string ⟨res.s.toArray⟩) (.slice a9 res.keys.length c9) (.slice b9 res.l.length d9) ∧ w8.heap.size ≤ g7 ∧ Below w8.heap.size w8 wc ∧ In wc (okN (fun k => okN (fun k => ok k ∧ k < w.heap.size) w5.heap.size k ∧ k < W7.heap.size) w8.heap.size) res (.agg #[.int .i64 res.kind, .int .i64 res.n, .string ⟨res.s.toArray⟩, .slice a9 res.keys.length c9, .slice b9 res.l.length d9])))
  case first =>
    refine wp_region_T (fun wS => Below w8.heap.size w8 wS) [10] (by kernel_rfl) (bel_drewN _ 1) (fun hHeld => ?_)
    refine wpAnyT_take (i := 0) (v := ?_) [8, 10] (oi := _) rfl (by kernel_rfl) (by kernel_rfl) (by kernel_rfl) (by kernel_rfl) (fun _ _ _ h => h) (Or.inl ⟨by rfl, ?_⟩) hHeld ?_
    rotate_left
    · intro wS hSw
      obtain ⟨u0, u1, u2, u3, u4, -⟩ := (box_bel hSw VB8.out).c
      obtain ⟨e0, e1, e2, e3, e4, e5⟩ := box6 (blk_bel hSw XW8.out)
      have nm := cell_bel hSw NC8.out
      go_simp
      all_goals with_reducible rfl
    simp only [Act.put, List.setIfInBounds_toArray, List.set_cons_zero, List.set_cons_succ]
    refine wpAnyT_take (i := 1) (v := ?_) [7, 8, 10] (oi := _) rfl (by kernel_rfl) (by kernel_rfl) (by kernel_rfl) (by kernel_rfl) (fun _ _ _ h => h) (Or.inl ⟨by rfl, ?_⟩) hHeld ?_
    rotate_left
    · intro wS hSw
      obtain ⟨u0, u1, u2, u3, u4, -⟩ := (box_bel hSw VB8.out).c
      obtain ⟨e0, e1, e2, e3, e4, e5⟩ := box6 (blk_bel hSw XW8.out)
      have nm := cell_bel hSw NC8.out
      go_simp
      all_goals with_reducible rfl
    simp only [Act.put, List.setIfInBounds_toArray, List.set_cons_zero, List.set_cons_succ]
    refine wpAnyT_take (i := 2) (v := ?_) [7, 8, 10] (oi := _) rfl (by kernel_rfl) (by kernel_rfl) (by kernel_rfl) (by kernel_rfl) (fun _ _ _ h => h) (Or.inl ⟨by rfl, ?_⟩) hHeld ?_
    rotate_left
    · intro wS hSw
      obtain ⟨u0, u1, u2, u3, u4, -⟩ := (box_bel hSw VB8.out).c
      obtain ⟨e0, e1, e2, e3, e4, e5⟩ := box6 (blk_bel hSw XW8.out)
      have nm := cell_bel hSw NC8.out
      go_simp
      all_goals with_reducible rfl
    simp only [Act.put, List.setIfInBounds_toArray, List.set_cons_zero, List.set_cons_succ]
    refine wpAnyT_take (i := 3) (v := ?_) [5, 7, 8, 10] (oi := _) rfl (by kernel_rfl) (by kernel_rfl) (by kernel_rfl) (by kernel_rfl) (fun _ _ _ h => h) (Or.inl ⟨by rfl, ?_⟩) hHeld ?_
    rotate_left
    · intro wS hSw
      go_simp
      all_goals with_reducible rfl
    simp only [Act.put, List.setIfInBounds_toArray, List.set_cons_zero, List.set_cons_succ]
    refine wpAnyT_take (i := 4) (v := ?_) [5, 7, 8, 10] (oi := _) rfl (by kernel_rfl) (by kernel_rfl) (by kernel_rfl) (by kernel_rfl) (fun _ _ _ h => h) (Or.inl ⟨by rfl, ?_⟩) hHeld ?_
    rotate_left
    · intro wS hSw
      obtain ⟨u0, u1, u2, u3, u4, -⟩ := (box_bel hSw VB8.out).c
      obtain ⟨e0, e1, e2, e3, e4, e5⟩ := box6 (blk_bel hSw XW8.out)
      have nm := cell_bel hSw NC8.out
      go_simp
      all_goals with_reducible rfl
    simp only [Act.put, List.setIfInBounds_toArray, List.set_cons_zero, List.set_cons_succ]
    refine wpAnyT_take (i := 6) (v := ?_) [7, 8, 10] (oi := _) rfl (by kernel_rfl) (by kernel_rfl) (by kernel_rfl) (by kernel_rfl) (fun _ _ _ h => h) (Or.inl ⟨by rfl, ?_⟩) hHeld ?_
    rotate_left
    · intro wS hSw
      go_simp
      all_goals with_reducible rfl
    simp only [Act.put, List.setIfInBounds_toArray, List.set_cons_zero, List.set_cons_succ]
    refine wpAnyT_ready (rs := [5, 9]) (by kernel_rfl) (by simp) ?_
    refine AllReadyT.cons (i := 5) (o := _) rfl (fun K hK => ?_) ?_
    · go_simp
      refine (pathsOf_at _ (fun k => ok k ∧ k < w.heap.size) l _ who (by exact (HL.out.bel B8.out).bel hHeld) AO.out.rises (by have := AO.out.len; omega)).mono ?_
      rintro e w5q ⟨pa, pc, rfl, hst, hb5⟩
      refine hK.out _ _ (bel_trans hHeld hb5) (fun hHeld2 => ?_)
      have HADS := hidI hst
      try replace NB := hidI (box_bel hb5 NB.out)
      clear hb5 hst
      clear hK K
      replace hHeld := hHeld2
      clear hHeld2
      try simp only [Act.put, List.setIfInBounds_toArray, List.set_cons_zero, List.set_cons_succ]
      refine wpAnyT_ready (rs := [7, 9]) (by kernel_rfl) (by simp) ?_
      refine AllReadyT.cons (i := 7) (o := _) rfl (fun K hK => ?_) ?_
      · go_simp
        refine (cleared_at _ (fun k => okN (fun k => okN (fun k => ok k ∧ k < w.heap.size) w5.heap.size k ∧ k < W7.heap.size) w8.heap.size k ∧ k < w8.heap.size) (fun k => ok k ∧ k < w.heap.size) (fun k => W7.heap.size ≤ k) want t (leavesF want) (pathsOfF l who) (othersF t want l who) _ _ _ _ (by exact WI8.out.bel hHeld) (by exact ((HT.out.bel B8.out).bel hHeld).weak fun k hk => ⟨.inl ⟨.inl hk, Nat.lt_of_lt_of_le hk.2 B7.out.size⟩, Nat.lt_of_lt_of_le hk.2 B8.out.size⟩) (by exact HADS.out) (by exact OW8.out.bel hHeld) (by exact (HM.out.bel B8.out).bel hHeld) AO.out.obT AO.out.k5 AO.out.had (leaves_rise want).1 (leaves_rise want).2 AO.out.cT).mono ?_
        rintro e w7q ⟨rv, rfl, hr5, hb5, ho5, hc5, -⟩
        rw [HCL.out] at hr5 ho5 hc5
        obtain ⟨a6, b6, c6, d6, rfl⟩ := hr5.form
        have CLO := hidI ho5
        have CLC := hidI hc5
        have hS5 := hHeld.size
        refine hK.out _ _ (bel_trans hHeld hb5) (fun hHeld2 => ?_)
        first | (have CLI := hidI (ap_keep NB.out hr5 HG.out hS5)) | (have CLI := hidI (ap_plain hr5 hS5))
        try replace NB := hidI (box_bel hb5 NB.out)
        clear hb5 hr5 ho5 hc5 hS5
        clear hK K
        replace hHeld := hHeld2
        clear hHeld2
        try simp only [Act.put, List.setIfInBounds_toArray, List.set_cons_zero, List.set_cons_succ]
        refine wpAnyT_ready (rs := [8, 9]) (by kernel_rfl) (by simp) ?_
        refine AllReadyT.cons (i := 8) (o := _) rfl (fun K hK => ?_) ?_
        · go_simp
          refine (laidInto_at _ _ want cl (leavesF want) _ _ (by first | exact ap_wishg WI8.out hHeld HG.out | exact ap_wish WI8.out hHeld) CLI.out (by exact (HM.out.bel B8.out).bel hHeld) CLO.out AO.out.obW AO.out.lv AO.out.lvn CLC.out).mono ?_
          rintro e w8q ⟨rv, rfl, hr5, hb5⟩
          rw [HRES.out] at hr5
          obtain ⟨a9, b9, c9, d9, rfl⟩ := hr5.form
          have hS5 := hHeld.size
          refine hK.out _ _ (bel_trans hHeld hb5) (fun hHeld2 => ?_)
          first | (have RI := hidI (ap_keep2 NB.out hr5 hS5)) | (have RI := hidI (ap_plain2 hr5 hS5))
          try replace NB := hidI (box_bel hb5 NB.out)
          have CALLED : Hid True := hidI trivial
          clear hb5 hr5 hS5
          clear hK K
          replace hHeld := hHeld2
          clear hHeld2
          try simp only [Act.put, List.setIfInBounds_toArray, List.set_cons_zero, List.set_cons_succ]
          refine wpAnyT_ready (rs := [9]) (by kernel_rfl) (by simp) ?_
          refine AllReadyT.cons (i := 9) (o := _) rfl (fun K hK => ?_) ?_
          · go_simp
            refine hK.out _ _ (bel_trans hHeld (bel_alloc _ _)) (fun hHeld2 => ?_)
            have NB := hidI (ap_znew hHeld)
            have HG := hidI hHeld.size
            try replace HADS := hidI (HADS.out.bel (bel_alloc _ (.cells #[.int .i64 0, .int .i64 0, .string ⟨#[]⟩, .slice none 0 0, .slice none 0 0] 25)))
            first | (have c9 := CALLED.out; clear c9; have FINA := hidI (ap_new hHeld RI.out)) | (replace CLI := hidI (ap_low CLI.out (.cells #[.int .i64 0, .int .i64 0, .string ⟨#[]⟩, .slice none 0 0, .slice none 0 0] 25))) | skip
            clear hK K
            replace hHeld := hHeld2
            clear hHeld2
            try simp only [Act.put, List.setIfInBounds_toArray, List.set_cons_zero, List.set_cons_succ]
            try rw [show (World.drew w8).heap.size = w8.heap.size from rfl] at NB
            obtain ⟨n0, n1, n2, n3, n4, m0, m1, m2, m3, m4⟩ := NB.out.c
            first | (have c9 := FINA.out; clear c9) | (have FINB := hidI (ap_put hHeld HG.out NB.out RI.out))
            refine wpAnyT_last (i := 10) (o := _) (by kernel_rfl) (by rfl) rfl (fun K hK => ?_)
            go_simp
            refine hK.out _ _ ?_
            clear hK K
            try simp only [Act.put, List.setIfInBounds_toArray, List.set_cons_zero, List.set_cons_succ]
            refine wpAnyT_done (by kernel_rfl) ?_ _
            go_wp2_with fail
            go_meet
            case rel => first | exact ⟨_, _, _, _, _, rfl, FINA.out⟩ | exact ⟨_, _, _, _, _, rfl, FINB.out⟩
          exact AllReadyT.nil
        refine AllReadyT.cons (i := 9) (o := _) rfl (fun K hK => ?_) ?_
        · go_simp
          refine hK.out _ _ (bel_trans hHeld (bel_alloc _ _)) (fun hHeld2 => ?_)
          have NB := hidI (ap_znew hHeld)
          have HG := hidI hHeld.size
          try replace HADS := hidI (HADS.out.bel (bel_alloc _ (.cells #[.int .i64 0, .int .i64 0, .string ⟨#[]⟩, .slice none 0 0, .slice none 0 0] 25)))
          first | (have c9 := CALLED.out; clear c9; have FINA := hidI (ap_new hHeld RI.out)) | (replace CLI := hidI (ap_low CLI.out (.cells #[.int .i64 0, .int .i64 0, .string ⟨#[]⟩, .slice none 0 0, .slice none 0 0] 25))) | skip
          clear hK K
          replace hHeld := hHeld2
          clear hHeld2
          try simp only [Act.put, List.setIfInBounds_toArray, List.set_cons_zero, List.set_cons_succ]
          refine wpAnyT_ready (rs := [8]) (by kernel_rfl) (by simp) ?_
          refine AllReadyT.cons (i := 8) (o := _) rfl (fun K hK => ?_) ?_
          · go_simp
            refine (laidInto_at _ _ want cl (leavesF want) _ _ (by first | exact ap_wishg WI8.out hHeld HG.out | exact ap_wish WI8.out hHeld) CLI.out (by exact (HM.out.bel B8.out).bel hHeld) CLO.out AO.out.obW AO.out.lv AO.out.lvn CLC.out).mono ?_
            rintro e w8q ⟨rv, rfl, hr5, hb5⟩
            rw [HRES.out] at hr5
            obtain ⟨a9, b9, c9, d9, rfl⟩ := hr5.form
            have hS5 := hHeld.size
            refine hK.out _ _ (bel_trans hHeld hb5) (fun hHeld2 => ?_)
            first | (have RI := hidI (ap_keep2 NB.out hr5 hS5)) | (have RI := hidI (ap_plain2 hr5 hS5))
            try replace NB := hidI (box_bel hb5 NB.out)
            have CALLED : Hid True := hidI trivial
            clear hb5 hr5 hS5
            clear hK K
            replace hHeld := hHeld2
            clear hHeld2
            try simp only [Act.put, List.setIfInBounds_toArray, List.set_cons_zero, List.set_cons_succ]
            try rw [show (World.drew w8).heap.size = w8.heap.size from rfl] at NB
            obtain ⟨n0, n1, n2, n3, n4, m0, m1, m2, m3, m4⟩ := NB.out.c
            first | (have c9 := FINA.out; clear c9) | (have FINB := hidI (ap_put hHeld HG.out NB.out RI.out))
            refine wpAnyT_last (i := 10) (o := _) (by kernel_rfl) (by rfl) rfl (fun K hK => ?_)
            go_simp
            refine hK.out _ _ ?_
            clear hK K
            try simp only [Act.put, List.setIfInBounds_toArray, List.set_cons_zero, List.set_cons_succ]
            refine wpAnyT_done (by kernel_rfl) ?_ _
            go_wp2_with fail
            go_meet
            case rel => first | exact ⟨_, _, _, _, _, rfl, FINA.out⟩ | exact ⟨_, _, _, _, _, rfl, FINB.out⟩
          exact AllReadyT.nil
        exact AllReadyT.nil
      refine AllReadyT.cons (i := 9) (o := _) rfl (fun K hK => ?_) ?_
      · go_simp
        refine hK.out _ _ (bel_trans hHeld (bel_alloc _ _)) (fun hHeld2 => ?_)
        have NB := hidI (ap_znew hHeld)
        have HG := hidI hHeld.size
        try replace HADS := hidI (HADS.out.bel (bel_alloc _ (.cells #[.int .i64 0, .int .i64 0, .string ⟨#[]⟩, .slice none 0 0, .slice none 0 0] 25)))
        first | (have c9 := CALLED.out; clear c9; have FINA := hidI (ap_new hHeld RI.out)) | (replace CLI := hidI (ap_low CLI.out (.cells #[.int .i64 0, .int .i64 0, .string ⟨#[]⟩, .slice none 0 0, .slice none 0 0] 25))) | skip
        clear hK K
        replace hHeld := hHeld2
        clear hHeld2
        try simp only [Act.put, List.setIfInBounds_toArray, List.set_cons_zero, List.set_cons_succ]
        refine wpAnyT_ready (rs := [7]) (by kernel_rfl) (by simp) ?_
        refine AllReadyT.cons (i := 7) (o := _) rfl (fun K hK => ?_) ?_
        · go_simp
          refine (cleared_at _ (fun k => okN (fun k => okN (fun k => ok k ∧ k < w.heap.size) w5.heap.size k ∧ k < W7.heap.size) w8.heap.size k ∧ k < w8.heap.size) (fun k => ok k ∧ k < w.heap.size) (fun k => W7.heap.size ≤ k) want t (leavesF want) (pathsOfF l who) (othersF t want l who) _ _ _ _ (by exact WI8.out.bel hHeld) (by exact ((HT.out.bel B8.out).bel hHeld).weak fun k hk => ⟨.inl ⟨.inl hk, Nat.lt_of_lt_of_le hk.2 B7.out.size⟩, Nat.lt_of_lt_of_le hk.2 B8.out.size⟩) (by exact HADS.out) (by exact OW8.out.bel hHeld) (by exact (HM.out.bel B8.out).bel hHeld) AO.out.obT AO.out.k5 AO.out.had (leaves_rise want).1 (leaves_rise want).2 AO.out.cT).mono ?_
          rintro e w7q ⟨rv, rfl, hr5, hb5, ho5, hc5, -⟩
          rw [HCL.out] at hr5 ho5 hc5
          obtain ⟨a6, b6, c6, d6, rfl⟩ := hr5.form
          have CLO := hidI ho5
          have CLC := hidI hc5
          have hS5 := hHeld.size
          refine hK.out _ _ (bel_trans hHeld hb5) (fun hHeld2 => ?_)
          first | (have CLI := hidI (ap_keep NB.out hr5 HG.out hS5)) | (have CLI := hidI (ap_plain hr5 hS5))
          try replace NB := hidI (box_bel hb5 NB.out)
          clear hb5 hr5 ho5 hc5 hS5
          clear hK K
          replace hHeld := hHeld2
          clear hHeld2
          try simp only [Act.put, List.setIfInBounds_toArray, List.set_cons_zero, List.set_cons_succ]
          refine wpAnyT_ready (rs := [8]) (by kernel_rfl) (by simp) ?_
          refine AllReadyT.cons (i := 8) (o := _) rfl (fun K hK => ?_) ?_
          · go_simp
            refine (laidInto_at _ _ want cl (leavesF want) _ _ (by first | exact ap_wishg WI8.out hHeld HG.out | exact ap_wish WI8.out hHeld) CLI.out (by exact (HM.out.bel B8.out).bel hHeld) CLO.out AO.out.obW AO.out.lv AO.out.lvn CLC.out).mono ?_
            rintro e w8q ⟨rv, rfl, hr5, hb5⟩
            rw [HRES.out] at hr5
            obtain ⟨a9, b9, c9, d9, rfl⟩ := hr5.form
            have hS5 := hHeld.size
            refine hK.out _ _ (bel_trans hHeld hb5) (fun hHeld2 => ?_)
            first | (have RI := hidI (ap_keep2 NB.out hr5 hS5)) | (have RI := hidI (ap_plain2 hr5 hS5))
            try replace NB := hidI (box_bel hb5 NB.out)
            have CALLED : Hid True := hidI trivial
            clear hb5 hr5 hS5
            clear hK K
            replace hHeld := hHeld2
            clear hHeld2
            try simp only [Act.put, List.setIfInBounds_toArray, List.set_cons_zero, List.set_cons_succ]
            try rw [show (World.drew w8).heap.size = w8.heap.size from rfl] at NB
            obtain ⟨n0, n1, n2, n3, n4, m0, m1, m2, m3, m4⟩ := NB.out.c
            first | (have c9 := FINA.out; clear c9) | (have FINB := hidI (ap_put hHeld HG.out NB.out RI.out))
            refine wpAnyT_last (i := 10) (o := _) (by kernel_rfl) (by rfl) rfl (fun K hK => ?_)
            go_simp
            refine hK.out _ _ ?_
            clear hK K
            try simp only [Act.put, List.setIfInBounds_toArray, List.set_cons_zero, List.set_cons_succ]
            refine wpAnyT_done (by kernel_rfl) ?_ _
            go_wp2_with fail
            go_meet
            case rel => first | exact ⟨_, _, _, _, _, rfl, FINA.out⟩ | exact ⟨_, _, _, _, _, rfl, FINB.out⟩
          exact AllReadyT.nil
        exact AllReadyT.nil
      exact AllReadyT.nil
    refine AllReadyT.cons (i := 9) (o := _) rfl (fun K hK => ?_) ?_
    · go_simp
      refine hK.out _ _ (bel_trans hHeld (bel_alloc _ _)) (fun hHeld2 => ?_)
      have NB := hidI (ap_znew hHeld)
      have HG := hidI hHeld.size
      try replace HADS := hidI (HADS.out.bel (bel_alloc _ (.cells #[.int .i64 0, .int .i64 0, .string ⟨#[]⟩, .slice none 0 0, .slice none 0 0] 25)))
      first | (have c9 := CALLED.out; clear c9; have FINA := hidI (ap_new hHeld RI.out)) | (replace CLI := hidI (ap_low CLI.out (.cells #[.int .i64 0, .int .i64 0, .string ⟨#[]⟩, .slice none 0 0, .slice none 0 0] 25))) | skip
      clear hK K
      replace hHeld := hHeld2
      clear hHeld2
      try simp only [Act.put, List.setIfInBounds_toArray, List.set_cons_zero, List.set_cons_succ]
      refine wpAnyT_ready (rs := [5]) (by kernel_rfl) (by simp) ?_
      refine AllReadyT.cons (i := 5) (o := _) rfl (fun K hK => ?_) ?_
      · go_simp
        refine (pathsOf_at _ (fun k => ok k ∧ k < w.heap.size) l _ who (by exact (HL.out.bel B8.out).bel hHeld) AO.out.rises (by have := AO.out.len; omega)).mono ?_
        rintro e w5q ⟨pa, pc, rfl, hst, hb5⟩
        refine hK.out _ _ (bel_trans hHeld hb5) (fun hHeld2 => ?_)
        have HADS := hidI hst
        try replace NB := hidI (box_bel hb5 NB.out)
        clear hb5 hst
        clear hK K
        replace hHeld := hHeld2
        clear hHeld2
        try simp only [Act.put, List.setIfInBounds_toArray, List.set_cons_zero, List.set_cons_succ]
        refine wpAnyT_ready (rs := [7]) (by kernel_rfl) (by simp) ?_
        refine AllReadyT.cons (i := 7) (o := _) rfl (fun K hK => ?_) ?_
        · go_simp
          refine (cleared_at _ (fun k => okN (fun k => okN (fun k => ok k ∧ k < w.heap.size) w5.heap.size k ∧ k < W7.heap.size) w8.heap.size k ∧ k < w8.heap.size) (fun k => ok k ∧ k < w.heap.size) (fun k => W7.heap.size ≤ k) want t (leavesF want) (pathsOfF l who) (othersF t want l who) _ _ _ _ (by exact WI8.out.bel hHeld) (by exact ((HT.out.bel B8.out).bel hHeld).weak fun k hk => ⟨.inl ⟨.inl hk, Nat.lt_of_lt_of_le hk.2 B7.out.size⟩, Nat.lt_of_lt_of_le hk.2 B8.out.size⟩) (by exact HADS.out) (by exact OW8.out.bel hHeld) (by exact (HM.out.bel B8.out).bel hHeld) AO.out.obT AO.out.k5 AO.out.had (leaves_rise want).1 (leaves_rise want).2 AO.out.cT).mono ?_
          rintro e w7q ⟨rv, rfl, hr5, hb5, ho5, hc5, -⟩
          rw [HCL.out] at hr5 ho5 hc5
          obtain ⟨a6, b6, c6, d6, rfl⟩ := hr5.form
          have CLO := hidI ho5
          have CLC := hidI hc5
          have hS5 := hHeld.size
          refine hK.out _ _ (bel_trans hHeld hb5) (fun hHeld2 => ?_)
          first | (have CLI := hidI (ap_keep NB.out hr5 HG.out hS5)) | (have CLI := hidI (ap_plain hr5 hS5))
          try replace NB := hidI (box_bel hb5 NB.out)
          clear hb5 hr5 ho5 hc5 hS5
          clear hK K
          replace hHeld := hHeld2
          clear hHeld2
          try simp only [Act.put, List.setIfInBounds_toArray, List.set_cons_zero, List.set_cons_succ]
          refine wpAnyT_ready (rs := [8]) (by kernel_rfl) (by simp) ?_
          refine AllReadyT.cons (i := 8) (o := _) rfl (fun K hK => ?_) ?_
          · go_simp
            refine (laidInto_at _ _ want cl (leavesF want) _ _ (by first | exact ap_wishg WI8.out hHeld HG.out | exact ap_wish WI8.out hHeld) CLI.out (by exact (HM.out.bel B8.out).bel hHeld) CLO.out AO.out.obW AO.out.lv AO.out.lvn CLC.out).mono ?_
            rintro e w8q ⟨rv, rfl, hr5, hb5⟩
            rw [HRES.out] at hr5
            obtain ⟨a9, b9, c9, d9, rfl⟩ := hr5.form
            have hS5 := hHeld.size
            refine hK.out _ _ (bel_trans hHeld hb5) (fun hHeld2 => ?_)
            first | (have RI := hidI (ap_keep2 NB.out hr5 hS5)) | (have RI := hidI (ap_plain2 hr5 hS5))
            try replace NB := hidI (box_bel hb5 NB.out)
            have CALLED : Hid True := hidI trivial
            clear hb5 hr5 hS5
            clear hK K
            replace hHeld := hHeld2
            clear hHeld2
            try simp only [Act.put, List.setIfInBounds_toArray, List.set_cons_zero, List.set_cons_succ]
            try rw [show (World.drew w8).heap.size = w8.heap.size from rfl] at NB
            obtain ⟨n0, n1, n2, n3, n4, m0, m1, m2, m3, m4⟩ := NB.out.c
            first | (have c9 := FINA.out; clear c9) | (have FINB := hidI (ap_put hHeld HG.out NB.out RI.out))
            refine wpAnyT_last (i := 10) (o := _) (by kernel_rfl) (by rfl) rfl (fun K hK => ?_)
            go_simp
            refine hK.out _ _ ?_
            clear hK K
            try simp only [Act.put, List.setIfInBounds_toArray, List.set_cons_zero, List.set_cons_succ]
            refine wpAnyT_done (by kernel_rfl) ?_ _
            go_wp2_with fail
            go_meet
            case rel => first | exact ⟨_, _, _, _, _, rfl, FINA.out⟩ | exact ⟨_, _, _, _, _, rfl, FINB.out⟩
          exact AllReadyT.nil
        exact AllReadyT.nil
      exact AllReadyT.nil
    exact AllReadyT.nil
  case rest =>
    obtain ⟨g7, a9, b9, c9, d9, rfl, hcW, hcG, hcB, hcI⟩ := hcut
    have BC := hidI (bel_trans B8.out hcB)
    have YC := hidI (bel_trans Y8.out hcB)
    have CI := hidI hcI
    have CW := hidI hcW
    have CB := hidI hcB
    have CG := hidI hcG
    clear hcW hcG hcB hcI
    have S7 : Hid (w.heap.size + 4 ≤ w5.heap.size ∧ w5.heap.size ≤ W7.heap.size ∧ W7.heap.size ≤ w8.heap.size) := hidI ⟨Nat.le_trans SW.out Y5.out.size, Nat.le_trans Y56.out.size Y7.out.size, B78.out.size⟩
    obtain ⟨nw, hnw⟩ : ∃ nw, (withOwnF (othersF t want l who) ⟨who, leavesF want⟩).length = nw := ⟨_, rfl⟩
    have WOW : Hid (Calls Tryz.prog 29 #[.slice oa (othersF t want l who).length oc, .agg #[.string ⟨who.toArray⟩, .slice x3 (leavesF want).length y3]] wc fun e w' => ∃ a c, e = .returned (.slice a nw c) ∧ OwnsAre w' (fun k => W7.heap.size ≤ k ∨ (fun k => okN (fun k => ok k ∧ k < w.heap.size) w5.heap.size k ∧ k < W7.heap.size) k) (withOwnF (othersF t want l who) ⟨who, leavesF want⟩) (.slice a nw c) ∧ wc.grownBy w' (Value.ownBlock (.slice oa (othersF t want l who).length oc))) := hidI (by
      have hq := withOwner_at wc W7.heap.size (othersF t want l who) (.slice oa (othersF t want l who).length oc) ⟨who, leavesF want⟩ x3 y3 (fun k => okN (fun k => ok k ∧ k < w.heap.size) w5.heap.size k ∧ k < W7.heap.size) (ORW.out.bel CB.out) AO.out.named AO.out.risesO AO.out.lenO (Nat.le_trans B78.out.size CB.out.size) (by unfold maxLen; show who.length ≤ _; omega) ((wish_strs WI7.out).bel B78.out |>.bel CB.out) (fun k hk e => by have h9 := (ORW.out.lt k e.symm).1; have h8 := hk.2; omega)
      rw [hnw] at hq
      exact hq)
    have HNW := hidI hnw
    clear hnw
    obtain ⟨q0, q1, q2, q3, q4, q5⟩ := box6 (blk_bel CB.out XW8.out)
    have u0 := cell_bel CB.out NC8.out
    go_upto_region 10 with (go_at_call 29; refine WOW.out.mono ?_; rintro e w9 ⟨wa, wk, rfl, how, hgw⟩; have OW9 := hidI how; have GW := hidI hgw; clear how hgw)
    clear q0 q1 q2 q3 q4 q5 u0
    have FAR : Hid (∀ g, Value.ownBlock (.slice oa (othersF t want l who).length oc) = some g → W7.heap.size ≤ g ∧ g < w8.heap.size) := hidI (fun g hg => ORW.out.lt g hg)
    have Y9 : Hid (Below W3.heap.size W3 w9) := hidI (gb_far YC.out GW.out fun g hg => by have h9 := (FAR.out g hg).1; have h8 := S7.out; have h7 := Y5.out.size; omega)
    have B9 := hidI (bel_trans BW.out Y9.out)
    have RB9 : Hid (BoxIs w9 g7 (.int .i64 res.kind) (.int .i64 res.n) (.string ⟨res.s.toArray⟩) (.slice a9 res.keys.length c9) (.slice b9 res.l.length d9)) := hidI (by
      have h9 := (Array.getElem?_eq_some_iff.1 CW.out).1
      exact (GW.out.block g7 h9 fun e => by have h8 := (FAR.out g7 e.symm).2; have h7 := CG.out; omega).trans CW.out)
    have RI9 : Hid (In w9 (okN (fun k => okN (fun k => ok k ∧ k < w.heap.size) w5.heap.size k ∧ k < W7.heap.size) w8.heap.size) res (.agg #[.int .i64 res.kind, .int .i64 res.n, .string ⟨res.s.toArray⟩, .slice a9 res.keys.length c9, .slice b9 res.l.length d9])) := hidI (CI.out.grownR GW.out fun k hk e => by
      have h8 := FAR.out k e.symm
      rcases hk with hk | hk
      · have := hk.2; omega
      · omega)
    have OKF : Hid (∀ k, (okN (fun k => okN (fun k => ok k ∧ k < w.heap.size) w5.heap.size k ∧ k < W7.heap.size) w8.heap.size) k → k ≠ w.heap.size + 3) := hidI (fun k hk => by
      have h8 := S7.out
      rcases hk with ⟨hk | hk, -⟩ | hk
      · have := hk.2; omega
      · omega
      · omega)
    have OKS : Hid (∀ k, (okN (fun k => okN (fun k => ok k ∧ k < w.heap.size) w5.heap.size k ∧ k < W7.heap.size) w8.heap.size) k → okN ok w.heap.size k) := hidI (fun k hk => by
      have h8 := S7.out
      rcases hk with ⟨hk | hk, -⟩ | hk
      · exact .inl hk.1
      · exact .inr (by omega)
      · exact .inr (by omega))
    have OKF2 : Hid (∀ k, (W7.heap.size ≤ k ∨ (fun k => okN (fun k => ok k ∧ k < w.heap.size) w5.heap.size k ∧ k < W7.heap.size) k) → k ≠ w.heap.size + 3) := hidI (fun k hk => by
      have h8 := S7.out
      rcases hk with hk | ⟨hk | hk, -⟩
      · omega
      · have := hk.2; omega
      · omega)
    have OKS2 : Hid (∀ k, (W7.heap.size ≤ k ∨ (fun k => okN (fun k => ok k ∧ k < w.heap.size) w5.heap.size k ∧ k < W7.heap.size) k) → okN ok w.heap.size k) := hidI (fun k hk => by
      have h8 := S7.out
      rcases hk with hk | ⟨hk | hk, -⟩
      · exact .inr (by omega)
      · exact .inl hk.1
      · exact .inr (by omega))
    have GR : Hid (Calls Tryz.prog 13 #[.agg #[.int .i64 res.kind, .int .i64 res.n, .string ⟨res.s.toArray⟩, .slice a9 res.keys.length c9, .slice b9 res.l.length d9]] w9 fun e w' => e = .returned (.bool (goodV res)) ∧ Below w9.heap.size w9 w') := hidI (good_is w9 _ res _ RI9.out)
    obtain ⟨q0, q1, q2, q3, q4, -⟩ := RB9.out.c
    have HRR : Hid (applyF t l who want true = if goodV res = true ∧ nw ≤ 6 then (res, withOwnF (othersF t want l who) ⟨who, leavesF want⟩, [], 0) else (t, l, [], 2)) := hidI (by
      rw [RA.out, HRF.out, HNW.out])
    cases hgv : goodV res with
    | false =>
      have R : Hid (applyF t l who want true = (t, l, [], 2)) := hidI (by rw [HRR.out, if_neg (by rw [hgv]; simp)])
      rw [hgv] at GR
      clear hgv
      go_upto_region 11 with (go_at_call 13; refine GR.out.mono ?_; rintro e w10 ⟨rfl, hb⟩; have Y10 := hidI (bel_trans Y9.out hb); have B10 := hidI (bel_trans B9.out hb); clear hb)
      clear q0 q1 q2 q3 q4
      obtain ⟨v0, v1, v2, v3, v4, -⟩ := (box_bel Y10.out X1.out).c
      obtain ⟨n0, n1, n2, n3, n4, m0, m1, m2, m3, m4⟩ := (box_bel Y10.out X4.out).c
      have ZB := hidI ((box_bel Y10.out X4.out).set (.int .i64 t.kind) (.int .i64 t.n) (.string ⟨t.s.toArray⟩) (.slice b1 t.keys.length d1) (.slice b2 t.l.length d2))
      have BF := hidI (bel_set5 (g := w.heap.size + 3) B10.out (by omega) (.int .i64 t.kind) (.int .i64 t.n) (.string ⟨t.s.toArray⟩) (.slice b1 t.keys.length d1) (.slice b2 t.l.length d2))
      go_wp2_with fail
      obtain ⟨z0, z1, z2, z3, z4, -⟩ := ZB.out.c
      refine bodyPost_ret (v := .tuple #[.agg #[.int .i64 t.kind, .int .i64 t.n, .string ⟨t.s.toArray⟩, .slice b1 t.keys.length d1, .slice b2 t.l.length d2], .slice la l.length lc, .slice none 0 0, .int .i64 2]) ?_ rfl ?_
      · simp only [set5] at z0 z1 z2 z3 z4
        simp [results, Tryz.results6, go_sem, z0, z1, z2, z3, z4]
      · rw [ApplyIs, R.out]
        exact ⟨_, _, _, rfl, (HT.out.belB (fun k h => h.2) BF.out).weak fun k h => .inl h.1, (HL.out.belB (fun k h => h.2) BF.out).weak fun k h => .inl h.1, World.ownsRow_nil _ _ _ _, BF.out⟩

    | true =>
      rw [hgv] at GR
      by_cases h6 : nw ≤ 6
      · have RR : Hid (applyF t l who want true = (res, withOwnF (othersF t want l who) ⟨who, leavesF want⟩, [], 0)) := hidI (by rw [HRR.out, if_pos ⟨hgv, h6⟩])
        have q6 : ¬ (6 : Int) < (nw : Int) := by omega
        clear hgv h6
        go_upto_region 12 with (go_at_call 13; refine GR.out.mono ?_; rintro e w10 ⟨rfl, hb⟩; have Y10 := hidI (bel_trans Y9.out hb); have B10 := hidI (bel_trans B9.out hb); have RB10 := hidI (box_bel hb RB9.out); have RI10 := hidI (RI9.out.bel hb); have OW10 := hidI (OW9.out.bel hb); clear hb)
        clear q0 q1 q2 q3 q4 q6
        obtain ⟨v0, v1, v2, v3, v4, -⟩ := RB10.out.c
        obtain ⟨n0, n1, n2, n3, n4, m0, m1, m2, m3, m4⟩ := (box_bel Y10.out X4.out).c
        have ZB := hidI ((box_bel Y10.out X4.out).set (.int .i64 res.kind) (.int .i64 res.n) (.string ⟨res.s.toArray⟩) (.slice a9 res.keys.length c9) (.slice b9 res.l.length d9))
        have BF := hidI (bel_set5 (g := w.heap.size + 3) B10.out (by omega) (.int .i64 res.kind) (.int .i64 res.n) (.string ⟨res.s.toArray⟩) (.slice a9 res.keys.length c9) (.slice b9 res.l.length d9))
        have GF := hidI (set5_gb w10 (w.heap.size + 3) (.int .i64 res.kind) (.int .i64 res.n) (.string ⟨res.s.toArray⟩) (.slice a9 res.keys.length c9) (.slice b9 res.l.length d9))
        go_wp2_with fail
        obtain ⟨z0, z1, z2, z3, z4, -⟩ := ZB.out.c
        refine bodyPost_ret (v := .tuple #[.agg #[.int .i64 res.kind, .int .i64 res.n, .string ⟨res.s.toArray⟩, .slice a9 res.keys.length c9, .slice b9 res.l.length d9], .slice wa nw wk, .slice none 0 0, .int .i64 0]) ?_ rfl ?_
        · simp only [set5] at z0 z1 z2 z3 z4
          simp [results, Tryz.results6, go_sem, z0, z1, z2, z3, z4]
        · rw [ApplyIs, RR.out]
          refine ⟨_, _, _, rfl, (RI10.out.grownR GF.out fun k hk e => ?_).weak fun k hk => ?_, (OW10.out.grownR GF.out fun k hk e => ?_).weak fun k hk => ?_, World.ownsRow_nil _ _ _ _, BF.out⟩
          · cases e; exact OKF.out _ hk rfl
          · exact OKS.out _ hk
          · cases e; exact OKF2.out _ hk rfl
          · exact OKS2.out _ hk

      · have R : Hid (applyF t l who want true = (t, l, [], 2)) := hidI (by rw [HRR.out, if_neg (by intro h; exact h6 h.2)])
        have q6 : (6 : Int) < (nw : Int) := by omega
        clear hgv h6
        go_upto_region 11 with (go_at_call 13; refine GR.out.mono ?_; rintro e w10 ⟨rfl, hb⟩; have Y10 := hidI (bel_trans Y9.out hb); have B10 := hidI (bel_trans B9.out hb); clear hb)
        clear q0 q1 q2 q3 q4 q6
        obtain ⟨v0, v1, v2, v3, v4, -⟩ := (box_bel Y10.out X1.out).c
        obtain ⟨n0, n1, n2, n3, n4, m0, m1, m2, m3, m4⟩ := (box_bel Y10.out X4.out).c
        have ZB := hidI ((box_bel Y10.out X4.out).set (.int .i64 t.kind) (.int .i64 t.n) (.string ⟨t.s.toArray⟩) (.slice b1 t.keys.length d1) (.slice b2 t.l.length d2))
        have BF := hidI (bel_set5 (g := w.heap.size + 3) B10.out (by omega) (.int .i64 t.kind) (.int .i64 t.n) (.string ⟨t.s.toArray⟩) (.slice b1 t.keys.length d1) (.slice b2 t.l.length d2))
        go_wp2_with fail
        obtain ⟨z0, z1, z2, z3, z4, -⟩ := ZB.out.c
        refine bodyPost_ret (v := .tuple #[.agg #[.int .i64 t.kind, .int .i64 t.n, .string ⟨t.s.toArray⟩, .slice b1 t.keys.length d1, .slice b2 t.l.length d2], .slice la l.length lc, .slice none 0 0, .int .i64 2]) ?_ rfl ?_
        · simp only [set5] at z0 z1 z2 z3 z4
          simp [results, Tryz.results6, go_sem, z0, z1, z2, z3, z4]
        · rw [ApplyIs, R.out]
          exact ⟨_, _, _, rfl, (HT.out.belB (fun k h => h.2) BF.out).weak fun k h => .inl h.1, (HL.out.belB (fun k h => h.2) BF.out).weak fun k h => .inl h.1, World.ownsRow_nil _ _ _ _, BF.out⟩

end Go.Proofs.YtmdemcjmcnfjmaaGreatDoor

/- What Apply of package owner answers. -/
set_option linter.unusedSimpArgs false
set_option linter.unusedVariables false
namespace Go.Proofs.YtmdemcjmcnfjmaaGreatDoor
open Go.RowKit

theorem thr_deep : ∀ (ns : List (List UInt8)) (v x : V), thr ns v = some x → ns.length + cnt x ≤ cnt v
  | [], v, x, h => by cases h; simp
  | n :: ns, v, x, h => by
    obtain ⟨-, z, hm, hz⟩ := thr_kind h
    have h1 := thr_deep ns z x hz
    have h2 := cnts_mem (mem_in hm)
    have h3 := cnt_eq v
    rw [List.length_cons]
    omega
theorem gp_len {p : List UInt8} (h : gpB p = true) : p.length ≤ 140737488351232 ∧ namesP p ≠ [] := by
  simp only [gpB, Bool.and_eq_true, decide_eq_true_eq, Bool.not_eq_true'] at h
  refine ⟨?_, fun e => by rw [e] at h; simp at h⟩
  have := (split_len (p := p) (b := (splitP p).1) (by rw [← h.1])).1
  omega
theorem named_len {s : List UInt8} (h : namedB s = true) : s.length ≤ 12 := by
  simp only [namedB, Bool.and_eq_true, decide_eq_true_eq] at h
  exact h.1.2
theorem applyOk {t want : V} {l : List Own} (who : List UInt8) (h1 : t.kind = 5) (h2 : goodV t = true) (h3 : want.kind = 5) (h4 : goodV want = true) (h5 : goodOs l = true) : ApplyOk t want l who := by
  obtain ⟨g1, g2, g3⟩ := good_own h5
  obtain ⟨k1, k2⟩ := kept_good (stays := fun n p => n != who && !blockedF want t (leavesF want) p) h5
  have lo := leaves_ok h3 h4
  have c1 := nice_cnt (nice_of h2)
  have c2 := nice_cnt (nice_of h4)
  refine ⟨g3, g1, obs_good h2, obs_good h4, h1, by omega, fun p hp => gp_len (paths_good h5 who p hp), fun p hp => ?_, ?_, fun o ho => ?_, k2, ?_⟩
  · obtain ⟨q1, q2⟩ := gp_len (lo.good p hp)
    refine ⟨q1, q2, ?_⟩
    obtain ⟨x, hx, -⟩ := lvs_thr 12 want (namesP p) ((goodV_tree h4).ho) h3 ((lo.names _).1 (List.mem_map.2 ⟨p, hp, rfl⟩))
    rw [hx, Option.getD_some]
    have := thr_deep _ _ _ hx
    omega
  · have e : leavesF want = sortL ((lvs 12 want).map joinP) := if_pos ⟨h3, h4⟩
    rw [e, (sort_perm _).length_eq, List.length_map]
    have q1 := lvs_cnt 12 want
    have q2 := cnt_eq want
    omega
  · have := named_len (k1 o ho).1
    unfold maxLen; omega
  · have := (kept_names (fun n p => n != who && !blockedF want t (leavesF want) p) l).length_le
    simp only [List.length_map] at this
    show (keptF _ l).length ≤ _
    omega
theorem apply_at (w : World) (ok : Nat → Prop) (t want : V) (l : List Own) (who : List UInt8) (force : Bool) (vt vl vw : Value) (ht : In w ok t vt) (hl : OwnsAre w ok l vl) (hw : In w ok want vw) (hM : GlobM w) (hN : (allOf l).length ≤ 4000000) (hP : ∀ o ∈ l, ∀ x ∈ o.paths, x.length ≤ 140737488351232) (hwho : who.length ≤ 9223372036854775807) :
    Calls Tryz.prog 6 #[vt, vl, .string ⟨who.toArray⟩, vw, .bool force] w fun e w' => ApplyIs w w' ok (applyF t l who want force) e := by
  cases hg1 : (decide (t.kind = 5) && goodV t) with
  | false => exact apply_bad1 w ok t want l who force vt vl vw ht hl hw hM hN hP hwho hg1
  | true =>
    cases hg2 : (decide (want.kind = 5) && goodV want) with
    | false => exact apply_bad2 w ok t want l who force vt vl vw ht hl hw hM hN hP hwho hg1 hg2
    | true =>
      cases hg3 : goodOs l with
      | false => exact apply_bad3 w ok t want l who force vt vl vw ht hl hw hM hN hP hwho hg1 hg2 hg3
      | true =>
        cases hg4 : namedB who with
        | false => exact apply_bad4 w ok t want l who force vt vl vw ht hl hw hM hN hP hwho hg1 hg2 hg3 hg4
        | true =>
          have a1 := Bool.and_eq_true_iff.1 hg1
          have a2 := Bool.and_eq_true_iff.1 hg2
          have AO := applyOk who (of_decide_eq_true a1.1) a1.2 (of_decide_eq_true a2.1) a2.2 hg3
          by_cases hf : foundF (blockedF want t (leavesF want)) who l = []
          · exact apply_none w ok t want l who force vt vl vw ht hl hw hM hN hP hwho hg1 hg2 hg3 hg4 hf AO
          · cases hfo : force with
            | false => exact apply_conf w ok t want l who false vt vl vw ht hl hw hM hN hP hwho hg1 hg2 hg3 hg4 hf rfl
            | true => exact apply_force w ok t want l who true vt vl vw ht hl hw hM hN hP hwho hg1 hg2 hg3 hg4 hf rfl AO
end Go.Proofs.YtmdemcjmcnfjmaaGreatDoor

/- What pathsOf of package keep answers. -/
set_option linter.unusedSimpArgs false
set_option linter.unusedVariables false
namespace Go.Proofs.YtmdemcjmcnfjmaaGreatDoor
open Go.RowKit

theorem find_atK {l : List Own} {who : List UInt8} {k : Nat} (hlt : k < l.length) (h : ∀ o ∈ l.take k, o.name ≠ who) (he : l[k].name = who) : pathsOfF l who = l[k].paths := by
  have e : l = l.take k ++ l[k] :: l.drop (k + 1) := by rw [← List.drop_eq_getElem_cons hlt, List.take_append_drop]
  unfold pathsOfF
  have : l.find? (fun o => o.name == who) = some l[k] := by
    conv => lhs; rw [e]
    rw [List.find?_append, List.find?_eq_none.2 (by intro o ho; simpa using h o ho)]
    rw [Option.none_or, List.find?_cons_of_pos (by simpa using he)]
  rw [this]
theorem find_out {l : List Own} {who : List UInt8} (h : ∀ o ∈ l, o.name ≠ who) : pathsOfF l who = [] := paths_none h
set_option maxRecDepth 100000 in
set_option maxHeartbeats 4000000 in
theorem pathsOfK_at (w : World) (ok : Nat → Prop) (l : List Own) (v : Value) (who : List UInt8) (h : OwnsAre w ok l v) :
    Calls Tryz.prog 10 #[v, .string ⟨who.toArray⟩] w fun e w' => ∃ a c, e = .returned (.slice a (pathsOfF l who).length c) ∧ StrsAre w' ok (pathsOfF l who) (.slice a (pathsOfF l who).length c) ∧ Below w.heap.size w w' := by
  have H := hidI h
  obtain ⟨a, c, rfl⟩ := h.form
  have ll := h.1
  unfold maxLen at ll
  clear h
  go_enter Tryz.func10, Tryz.ntmps10
  go_wp2_with fail
  go_loopg [9] l.length (fun gk i wr => ∃ k : Nat, k ≤ l.length ∧ gk = l.length - k ∧ i = .int .i64 k ∧ Hid (∀ o ∈ l.take k, o.name ≠ who) ∧ Hid (Below w.heap.size w wr))
  case atStart => exact ⟨0, Nat.zero_le _, rfl, rfl, fun o ho => by simp at ho, Below.refl _ _⟩
  case round =>
    obtain ⟨k, hk, hgk, rfl, AL, BL⟩ := hrel
    have GK := hidI hgk
    clear hgk
    by_cases hlt : k < l.length
    · obtain ⟨b, off, pa, pc, rfl, hc1, hc2, hn0, hp0, hst, hnl⟩ := H.out.at hlt
      have hn := cell_bel BL.out hn0
      have hp := cell_bel BL.out hp0
      have w2 : (k : Int) < (l.length : Int) := by omega
      have w3 : (0 : Int) ≤ (k : Int) := by omega
      have FA : Hid (l[k].name = who → pathsOfF l who = l[k].paths) := hidI (find_atK hlt AL.out)
      have TK : Hid (l[k].name ≠ who → ∀ o ∈ l.take (k + 1), o.name ≠ who) := hidI (fun h9 o ho => by
        rw [List.take_succ_eq_append_getElem hlt, List.mem_append, List.mem_singleton] at ho
        rcases ho with ho | rfl
        · exact AL.out o ho
        · exact h9)
      have ST := hidI hst
      clear hn0 hp0 hst
      obtain ⟨nm, hnm⟩ : ∃ nm, l[k].name = nm := ⟨_, rfl⟩
      obtain ⟨ps, hps⟩ : ∃ ps, l[k].paths = ps := ⟨_, rfl⟩
      rw [hnm] at hn FA TK hnl
      rw [hps] at hp FA ST
      clear hnm hps
      have BN : Hid (∀ o, Below w.heap.size w (wr.alloc o)) := hidI (fun o => bel_trans BL.out (bel_alloc wr o))
      by_cases he : nm = who
      · subst he
        have R := hidI (FA.out rfl)
        clear FA TK
        go_wp2_with fail
        go_ret
        refine ⟨pa, pc, by rw [R.out]; rfl, by rw [R.out]; exact ST.out.bel (BN.out _), BN.out _⟩
      · have e9 : (nm == who) = false := by simpa using he
        have TK2 := hidI (TK.out he)
        clear FA TK
        go_wp2_with fail
        go_roundg (l.length - (k + 1))
        case measure => rw [GK.out]; omega
        case rel => exact ⟨k + 1, hlt, rfl, by go_num, TK2, hidI (BN.out _)⟩
    · have d9 : ¬ (k : Int) < (l.length : Int) := by omega
      have R : Hid (pathsOfF l who = []) := hidI (find_out (by
        have := AL.out
        rwa [List.take_of_length_le (by omega)] at this))
      go_wp2_with fail
      go_ret
      exact ⟨none, 0, by rw [R.out]; rfl, by rw [R.out]; exact ⟨by simp, .inl ⟨rfl, none, rfl⟩⟩, BL.out⟩
end Go.Proofs.YtmdemcjmcnfjmaaGreatDoor

/- What sameTexts and pathsOf of package keep answer. -/
set_option linter.unusedSimpArgs false
set_option linter.unusedVariables false
namespace Go.Proofs.YtmdemcjmcnfjmaaGreatDoor
open Go.RowKit

theorem take_same {α : Type} {xs ys : List α} {k : Nat} (h : xs.take k = ys.take k) (hx : k < xs.length) (hy : k < ys.length) (he : xs[k] = ys[k]) : xs.take (k + 1) = ys.take (k + 1) := by
  rw [List.take_succ_eq_append_getElem hx, List.take_succ_eq_append_getElem hy, h, he]
set_option maxRecDepth 100000 in
set_option maxHeartbeats 4000000 in
theorem sameTexts_at (w : World) (ok ok' : Nat → Prop) (xs ys : List (List UInt8)) (v u : Value) (h : StrsAre w ok xs v) (h' : StrsAre w ok' ys u) :
    Calls Tryz.prog 9 #[v, u] w fun e w' => e = .returned (.bool (decide (xs = ys))) ∧ Below w.heap.size w w' := by
  have H := hidI h
  have H' := hidI h'
  obtain ⟨a, c, rfl⟩ := h.form
  obtain ⟨a', c', rfl⟩ := h'.form
  have ll := h.1
  have ll' := h'.1
  unfold maxLen at ll ll'
  clear h h'
  by_cases hl : xs.length = ys.length
  · have q0 : ((xs.length : Int) != (ys.length : Int)) = false := by simp [hl]
    have q00 : ((xs.length : Int) == (ys.length : Int)) = true := by simp [hl]
    have HLN := hidI hl
    rw [← hl]
    clear hl
    go_enter Tryz.func9, Tryz.ntmps9
    go_wp2_with fail
    go_loopg [13] xs.length (fun gk i wr => ∃ k : Nat, k ≤ xs.length ∧ gk = xs.length - k ∧ i = .int .i64 k ∧ Hid (xs.take k = ys.take k) ∧ Hid (Below w.heap.size w wr))
    case atStart => exact ⟨0, Nat.zero_le _, rfl, rfl, rfl, Below.refl _ _⟩
    case round =>
      obtain ⟨k, hk, hgk, rfl, AL, BL⟩ := hrel
      have GK := hidI hgk
      clear hgk
      by_cases hlt : k < xs.length
      · have hlt' : k < ys.length := HLN.out ▸ hlt
        obtain ⟨b, off, rfl, hc1, hc2, hcell0⟩ := strs_at H.out hlt
        obtain ⟨b', off', rfl, hc1', hc2', hcell0'⟩ := strs_at H'.out hlt'
        unfold maxLen at hc2 hc2'
        have w2 : (k : Int) < (xs.length : Int) := by omega
        have w3 : (0 : Int) ≤ (k : Int) := by omega
        have TK : Hid (xs[k] = ys[k] → xs.take (k + 1) = ys.take (k + 1)) := hidI (take_same AL.out hlt hlt')
        have NE : Hid (xs[k] ≠ ys[k] → decide (xs = ys) = false) := hidI (fun h9 => decide_eq_false (fun e => h9 (by subst e; rfl)))
        have d0 := cell_bel BL.out hcell0
        have d1 := cell_bel BL.out hcell0'
        have BD : Hid (Below w.heap.size w wr.drew) := hidI (bel_trans BL.out (bel_drewN wr 1))
        clear hcell0 hcell0'
        by_cases he : xs[k] = ys[k]
        · have TK2 := hidI (TK.out he)
          rw [← he] at d1
          clear he
          go_wp2_with fail
          go_region
          go_wp2_with fail
          go_roundg (xs.length - (k + 1))
          case measure => rw [GK.out]; omega
          case rel => exact ⟨k + 1, hlt, rfl, by go_num, TK2, BD⟩
        · have R := hidI (NE.out he)
          have e9 : (xs[k] == ys[k]) = false := by rw [beq_eq_false_iff_ne]; exact he
          obtain ⟨x, hx⟩ : ∃ x, xs[k] = x := ⟨_, rfl⟩
          obtain ⟨y, hy⟩ : ∃ y, ys[k] = y := ⟨_, rfl⟩
          rw [hx] at d0 he e9
          rw [hy] at d1 he e9
          clear hx hy TK NE
          go_wp2_with fail
          go_region
          go_wp2_with fail
          go_ret
          exact ⟨by rw [R.out]; rfl, BD.out⟩
      · have d9 : ¬ (k : Int) < (xs.length : Int) := by omega
        have R : Hid (decide (xs = ys) = true) := hidI (decide_eq_true (by
          have := AL.out
          rwa [List.take_of_length_le (by omega), List.take_of_length_le (by have := HLN.out; omega)] at this))
        go_wp2_with fail
        go_ret
        exact ⟨by rw [R.out]; rfl, BL.out⟩
  · have q0 : ((xs.length : Int) != (ys.length : Int)) = true := by simp; omega
    have q00 : ((xs.length : Int) == (ys.length : Int)) = false := by rw [beq_eq_false_iff_ne]; omega
    have R : Hid (decide (xs = ys) = false) := hidI (decide_eq_false (fun e => hl (by rw [e])))
    go_enter Tryz.func9, Tryz.ntmps9
    go_wp2_with fail
    go_ret
    exact ⟨by rw [R.out]; rfl, Below.refl _ _⟩
end Go.Proofs.YtmdemcjmcnfjmaaGreatDoor

/- What through of package keep answers. -/
set_option linter.unusedSimpArgs false
set_option linter.unusedVariables false
namespace Go.Proofs.YtmdemcjmcnfjmaaGreatDoor
open Go.RowKit

/- What lies below w in the one lies there in the other. -/
theorem Below.symmB {w a b : World} (h : Below w.heap.size w a) (k : Below w.heap.size w b) : ∀ i, i < w.heap.size → b.heap[i]? = a.heap[i]? := fun i hi => (k.block i hi).trans (h.block i hi).symm
theorem In.beside {w a b : World} {ok : Nat → Prop} {t : V} {v : Value} (h : In a (fun k => ok k ∧ k < w.heap.size) t v) (ha : Below w.heap.size w a) (hb : Below w.heap.size w b) : In b (fun k => ok k ∧ k < w.heap.size) t v := by
  obtain ⟨d, h⟩ := h
  exact ⟨d, h.imp fun c x h1 h2 => ⟨h1, (World.cell?_of_block (Below.symmB ha hb _ h1.2)).trans h2⟩⟩
end Go.Proofs.YtmdemcjmcnfjmaaGreatDoor

/- What word of json's reader does. -/
set_option linter.unusedSimpArgs false
set_option linter.unusedVariables false
namespace Go.Proofs.YtmdemcjmcnfjmaaGreatDoor
open Go.RowKit

def wordS (wd l : List UInt8) : Option (List UInt8) := if wd.isPrefixOf l then some (l.drop wd.length) else none

set_option maxRecDepth 100000 in
set_option maxHeartbeats 1000000 in
theorem word_st (w : World) (b : Nat) (s : ByteArray) (st : Option (List UInt8)) (wd : ByteArray) (k n : Int) (hk : I64 k) (hn : I64 n) (hwd : 0 < wd.size) (hwd2 : wd.size ≤ 100) (h : RdSt w b s st) :
    Calls Tryz.prog 93 #[.pointer (some ⟨b, 0, none⟩), .string wd, .agg #[.int .i64 k, .int .i64 n, .string ⟨#[]⟩, .slice none 0 0, .slice none 0 0]] w fun e w' => ∃ (t : V) (v : Value) (st' : Option (List UInt8)), e = .returned v ∧ IsLeaf t v ∧
      (st.bind (wordS wd.data.toList)).map (fun l => (leafV k n [], l)) = st'.map (fun l => (t, l)) ∧ RdSt w' b s st' ∧ w.grownBy w' (some b) := by
  have H := hidI h
  have hbl := h.lt
  obtain ⟨i, h1, e1⟩ := h
  have E1 := hidI e1
  have hi := h1.2.1
  have hs0 := h1.2.2
  have R0 := hidI h1
  clear e1 h1
  have hr1 : Hid (RdIs ((w.alloc (.cells #[.int .i64 k, .int .i64 n, .string ⟨#[]⟩, .slice none 0 0, .slice none 0 0] 25)).alloc zcells) b s i st.isNone) :=
    ⟨by rw [(World.grownBy_alloc _ zcells none).block b (by simp; omega) (by simp), (World.grownBy_alloc w _ none).block b hbl (by simp)]; exact R0.out.1, R0.out.2⟩
  have i0 : (0 : Int) ≤ (i : Int) := by omega
  have i1 : (i : Int) ≤ (s.size : Int) := by omega
  obtain ⟨c0, c1, c2, f1, f2⟩ := hr1.out.c
  unfold zcells at c0 c1 c2 f1 f2
  have hdr : Hid ((s.data.toList.drop i).take (s.size - i) = st.getD []) := by
    show _ = _
    rw [← E1.out]
    exact List.take_of_length_le (by simp only [List.length_drop, Array.length_toList]; exact Nat.le_refl _)
  cases hpx : wd.data.toList.isPrefixOf (st.getD []) with
  | true =>
    have hp : Lib.hasPrefix ((s.data.toList.drop i).take (s.size - i)) wd.data.toList = true := by rw [hdr.out]; exact hpx
    have HP := hidI hpx
    have hlen : i + wd.size ≤ s.size := by
      have := List.IsPrefix.length_le (List.isPrefixOf_iff_prefix.1 hpx)
      rw [← E1.out, List.length_drop, Array.length_toList, Array.length_toList] at this
      have e : s.data.size = s.size := rfl
      have e' : wd.data.size = wd.size := rfl
      omega
    clear hpx
    go_enter Tryz.func93, Tryz.ntmps93
    go_wp2_with fail
    go_quiet ((go_at_call 83; exact Calls.quiet_of_same (Tryz.strings_HasPrefix _ _ _)))
    go_wp2_with fail
    refine bodyPost_ret (v := leaf k n []) (by simp [results, Tryz.results93, go_sem, leaf, str]) rfl ?_
    refine ⟨leafV k n [], leaf k n [], st.map (List.drop wd.data.toList.length), rfl, ⟨_, _, rfl, rfl, hk, hn⟩, ?_, ?_, ?_⟩
    · cases st with
      | none => exact absurd HP.out (by
          cases hw : wd.data.toList with
          | nil => have e : wd.data.toList.length = wd.size := by rw [Array.length_toList]; rfl
                   rw [hw] at e; simp at e; omega
          | cons c r => simp)
      | some l => exact congrArg _ (show wordS wd.data.toList l = some _ by unfold wordS; exact if_pos HP.out)
    · have e9 : ((i : Int) + (wd.size : Int)) = ((i + wd.size : Nat) : Int) := by omega
      refine ⟨i + wd.size, ⟨?_, hlen, hs0⟩, ?_⟩
      · rw [e9]
        refine ((set5_gb _ (w.heap.size + 1) _ _ _ _ _).block b ?_ (by simp; omega)).trans ?_
        · simp [World.setCell]; omega
        · have : (st.map (List.drop wd.data.toList.length)).isNone = st.isNone := by cases st <;> rfl
          rw [this]
          exact heap_set hr1.out.1 1 _
      · have e8 : wd.data.toList.length = wd.size := by rw [Array.length_toList]; rfl
        rw [← List.drop_drop, E1.out, e8]
        cases st with
        | none => simp
        | some l => rfl
    · exact gb_own (gb_set (gb_drewN (gb_alloc (gb_alloc (gb_refl _ _) _) _) _) _ _) (set5_gb _ (w.heap.size + 1) _ _ _ _ _) (by intro k hk; cases hk; omega)
  | false =>
    have hp : Lib.hasPrefix ((s.data.toList.drop i).take (s.size - i)) wd.data.toList = false := by rw [hdr.out]; exact hpx
    have HP := hidI hpx
    clear hpx
    go_enter Tryz.func93, Tryz.ntmps93
    go_wp2_with fail
    go_quiet ((go_at_call 83; exact Calls.quiet_of_same (Tryz.strings_HasPrefix _ _ _)))
    go_wp2_with fail
    refine (fail_at _ b s (st.getD []) st.isNone (by exact ⟨i, ⟨hr1.out.1, hr1.out.2⟩, E1.out⟩)).mono ?_
    rintro e w4 ⟨rfl, h4, hg4⟩
    have hg5 := gb_trans (gb_drewN (gb_refl ((w.alloc (.cells #[.int .i64 k, .int .i64 n, .string ⟨#[]⟩, .slice none 0 0, .slice none 0 0] 25)).alloc zcells) (some b)) nq) hg4
    have hbx : BoxIs w4 (w.heap.size + 1) (.int .i64 0) (.int .i64 0) (.string ⟨#[]⟩) (.slice none 0 0) (.slice none 0 0) := BoxIs.grown (h2b w _ zcells) hg5 (by simp; omega)
    have R4 : Hid (RdAt w4 b s [] true ∧ w.grownBy w4 (some b)) := ⟨h4, gb_trans (gb_alloc (gb_alloc (gb_refl _ _) _) _) hg5⟩
    obtain ⟨x0, x1, x2, x3, x4, y0, y1, y2, y3, y4⟩ := hbx.c
    obtain ⟨z0, z1, z2, z3, z4, -⟩ := (hbx.set (.int .i64 0) (.int .i64 0) (str []) (.slice none 0 0) (.slice none 0 0)).c
    have Z : Hid (_ ∧ _ ∧ _ ∧ _ ∧ _) := ⟨z0, z1, z2, z3, z4⟩
    clear z0 z1 z2 z3 z4 hbx h4 hg4 hg5 c0 c1 c2 f1 f2
    go_wp2_with fail
    obtain ⟨z0, z1, z2, z3, z4⟩ := Z.out
    refine bodyPost_ret (v := leaf 0 0 []) ?_ rfl ?_
    · simp only [set5, str] at z0 z1 z2 z3 z4
      simp [results, Tryz.results93, go_sem, z0, z1, z2, z3, z4, leaf, str]
    · refine ⟨leafV 0 0 [], leaf 0 0 [], none, rfl, ⟨_, _, rfl, rfl, (by unfold I64; omega), (by unfold I64; omega)⟩, ?_, ?_, ?_⟩
      · cases st with
        | none => rfl
        | some l => exact congrArg _ (show wordS wd.data.toList l = none by unfold wordS; rw [if_neg (by rw [show wd.data.toList.isPrefixOf l = false from HP.out]; simp)])
      · exact R4.out.1.of_heap ((set5_gb w4 (w.heap.size + 1) _ _ _ _ _).block b R4.out.1.lt (by simp; omega))
      · exact gb_own R4.out.2 (set5_gb w4 (w.heap.size + 1) _ _ _ _ _) (by intro k hk; cases hk; omega)
end Go.Proofs.YtmdemcjmcnfjmaaGreatDoor

/- What a text tells: the plain function that Parse is held against. -/
set_option linter.unusedSimpArgs false
set_option linter.unusedVariables false
namespace Go.Proofs.YtmdemcjmcnfjmaaGreatDoor
open Go.RowKit

def itemsS (g : List UInt8 → Option (V × List UInt8)) : Nat → List V → List UInt8 → Option (V × List UInt8)
  | 0, _, _ => none
  | k + 1, acc, l =>
    match markS 44 l with
    | some r => (g r).bind fun p => itemsS g k (acc ++ [p.1]) p.2
    | none => (markS 93 (l.dropWhile isSp)).map fun r => (⟨4, 0, [], [], acc⟩, r)
def listS (g : List UInt8 → Option (V × List UInt8)) (l : List UInt8) : Option (V × List UInt8) :=
  (markS 91 l).bind fun l =>
    match markS 93 l with
    | some r => some (⟨4, 0, [], [], []⟩, r)
    | none => (g (l.dropWhile isSp)).bind fun p => itemsS g (p.2.length + 1) [p.1] p.2
def memS (g : List UInt8 → Option (V × List UInt8)) (v : V) (l : List UInt8) : Option (V × List UInt8) :=
  (quotS l).bind fun q => (markS 58 q.2).bind fun l => (g l).bind fun p => if (memV v q.1).isSome then none else some (withV v q.1 p.1, p.2)
def membsS (g : List UInt8 → Option (V × List UInt8)) : Nat → V → List UInt8 → Option (V × List UInt8)
  | 0, _, _ => none
  | k + 1, v, l =>
    match markS 44 l with
    | some r => (memS g v r).bind fun p => membsS g k p.1 p.2
    | none => (markS 125 (l.dropWhile isSp)).map fun r => (v, r)
def objS (g : List UInt8 → Option (V × List UInt8)) (l : List UInt8) : Option (V × List UInt8) :=
  (markS 123 l).bind fun l =>
    match markS 125 l with
    | some r => some (⟨5, 0, [], [], []⟩, r)
    | none => (memS g ⟨5, 0, [], [], []⟩ (l.dropWhile isSp)).bind fun p => membsS g (p.2.length + 1) p.1 p.2
def oneS (g : List UInt8 → Option (V × List UInt8)) (l : List UInt8) : Option (V × List UInt8) :=
  if hd0 l = 110 then (wordS [110, 117, 108, 108] l).map fun r => (leafV 0 0 [], r)
  else if hd0 l = 102 then (wordS [102, 97, 108, 115, 101] l).map fun r => (leafV 1 0 [], r)
  else if hd0 l = 116 then (wordS [116, 114, 117, 101] l).map fun r => (leafV 1 1 [], r)
  else if hd0 l = 34 then (quotS l).map fun p => (leafV 3 0 p.1, p.2)
  else if hd0 l = 91 then listS g l
  else if hd0 l = 123 then objS g l
  else (numS l).map fun p => (leafV 2 p.1 [], p.2)
def valS : Nat → List UInt8 → Option (V × List UInt8)
  | 0, _ => none
  | f + 1, l => oneS (valS f) (l.dropWhile isSp)

/- It leaves less than there was. -/
def Less (g : List UInt8 → Option (V × List UInt8)) : Prop := ∀ l p, g l = some p → p.2.length < l.length
theorem itemsS_len {g : List UInt8 → Option (V × List UInt8)} (hg : Less g) (k : Nat) : ∀ (acc : List V) (l : List UInt8) (p : V × List UInt8), itemsS g k acc l = some p → p.2.length < l.length := by
  induction k with
  | zero => intro acc l p h; cases h
  | succ k ih =>
    intro acc l p h
    simp only [itemsS] at h
    split at h
    · rename_i r hr
      simp only [Option.bind_eq_some_iff] at h
      obtain ⟨q, h1, h2⟩ := h
      have := hg _ _ h1
      have := ih _ _ _ h2
      have := markS_len hr
      omega
    · simp only [Option.map_eq_some_iff] at h
      obtain ⟨r, h1, rfl⟩ := h
      have := markS_len h1
      have := dropSp_len l
      simp only; omega
theorem listS_len {g : List UInt8 → Option (V × List UInt8)} (hg : Less g) : Less (listS g) := by
  intro l p h
  simp only [listS, Option.bind_eq_some_iff] at h
  obtain ⟨r, h1, h2⟩ := h
  have := markS_len h1
  split at h2
  · rename_i r2 hr2
    cases h2
    have := markS_len hr2
    simp only; omega
  · simp only [Option.bind_eq_some_iff] at h2
    obtain ⟨q, h3, h4⟩ := h2
    have := hg _ _ h3
    have := itemsS_len hg _ _ _ _ h4
    have := dropSp_len r
    omega
theorem memS_len {g : List UInt8 → Option (V × List UInt8)} (hg : Less g) (v : V) : Less (memS g v) := by
  intro l p h
  simp only [memS, Option.bind_eq_some_iff] at h
  obtain ⟨q, h1, r, h2, y, h3, h4⟩ := h
  split at h4
  · cases h4
  · cases h4
    have := quotS_len h1
    have := markS_len h2
    have := hg _ _ h3
    simp only; omega
theorem membsS_len {g : List UInt8 → Option (V × List UInt8)} (hg : Less g) (k : Nat) : ∀ (v : V) (l : List UInt8) (p : V × List UInt8), membsS g k v l = some p → p.2.length < l.length := by
  induction k with
  | zero => intro acc l p h; cases h
  | succ k ih =>
    intro acc l p h
    simp only [membsS] at h
    split at h
    · rename_i r hr
      simp only [Option.bind_eq_some_iff] at h
      obtain ⟨q, h1, h2⟩ := h
      have := memS_len hg _ _ _ h1
      have := ih _ _ _ h2
      have := markS_len hr
      omega
    · simp only [Option.map_eq_some_iff] at h
      obtain ⟨r, h1, rfl⟩ := h
      have := markS_len h1
      have := dropSp_len l
      simp only; omega
theorem objS_len {g : List UInt8 → Option (V × List UInt8)} (hg : Less g) : Less (objS g) := by
  intro l p h
  simp only [objS, Option.bind_eq_some_iff] at h
  obtain ⟨r, h1, h2⟩ := h
  have := markS_len h1
  split at h2
  · rename_i r2 hr2
    cases h2
    have := markS_len hr2
    simp only; omega
  · simp only [Option.bind_eq_some_iff] at h2
    obtain ⟨q, h3, h4⟩ := h2
    have := memS_len hg _ _ _ h3
    have := membsS_len hg _ _ _ _ h4
    have := dropSp_len r
    omega
theorem wordS_len {wd l r : List UInt8} (hw : 0 < wd.length) (h : wordS wd l = some r) : r.length < l.length := by
  unfold wordS at h
  split at h
  · rename_i hp
    cases h
    have := List.IsPrefix.length_le (List.isPrefixOf_iff_prefix.1 hp)
    rw [List.length_drop]; omega
  · cases h
theorem numS_len {l : List UInt8} {p : Int × List UInt8} (h : numS l = some p) : p.2.length < l.length := by
  unfold numS at h
  split at h
  · rename_i v hv
    split at h
    · rename_i he
      cases h
      have e : l = l.takeWhile isNum ++ l.dropWhile isNum := (List.takeWhile_append_dropWhile).symm
      have e2 := congrArg List.length e
      rw [List.length_append] at e2
      have : 0 < (l.takeWhile isNum).length := by
        cases ht : l.takeWhile isNum with
        | nil => rw [ht] at hv; exact absurd hv (atoi_nil v)
        | cons c r => simp
      simp only; omega
    · cases h
  · cases h
theorem oneS_len {g : List UInt8 → Option (V × List UInt8)} (hg : Less g) : Less (oneS g) := by
  intro l p h
  unfold oneS at h
  split at h
  · simp only [Option.map_eq_some_iff] at h; obtain ⟨r, h1, rfl⟩ := h; exact wordS_len (by simp) h1
  split at h
  · simp only [Option.map_eq_some_iff] at h; obtain ⟨r, h1, rfl⟩ := h; exact wordS_len (by simp) h1
  split at h
  · simp only [Option.map_eq_some_iff] at h; obtain ⟨r, h1, rfl⟩ := h; exact wordS_len (by simp) h1
  split at h
  · simp only [Option.map_eq_some_iff] at h; obtain ⟨r, h1, rfl⟩ := h; exact quotS_len h1
  split at h
  · exact listS_len hg _ _ h
  split at h
  · exact objS_len hg _ _ h
  · simp only [Option.map_eq_some_iff] at h; obtain ⟨r, h1, rfl⟩ := h; exact numS_len h1
theorem valS_len (f : Nat) : Less (valS f) := by
  induction f with
  | zero => intro l p h; cases h
  | succ f ih =>
    intro l p h
    have := oneS_len ih _ _ h
    have := dropSp_len l
    omega
end Go.Proofs.YtmdemcjmcnfjmaaGreatDoor

/- What list of json's reader does, if value does what is said of it. -/
set_option linter.unusedSimpArgs false
set_option linter.unusedVariables false
namespace Go.Proofs.YtmdemcjmcnfjmaaGreatDoor
open Go.RowKit

/- What is said of value, where less than f is still to be read. -/
def ValC (f : Nat) : Prop := ∀ (w : World) (b : Nat) (s : ByteArray) (st : Option (List UInt8)), RdSt w b s st → Glob w → 6 ≤ b → (st.getD []).length < f →
    Calls Tryz.prog 63 #[.pointer (some ⟨b, 0, none⟩)] w fun e w' => ∃ (t : V) (st' : Option (List UInt8)) (a7 a8 : Option Addr) (c7 c8 : Nat),
      e = .returned (.agg #[.int .i64 t.kind, .int .i64 t.n, .string ⟨t.s.toArray⟩, .slice a7 t.keys.length c7, .slice a8 t.l.length c8]) ∧
      VIs w' (fun k => w.heap.size ≤ k) f t (.agg #[.int .i64 t.kind, .int .i64 t.n, .string ⟨t.s.toArray⟩, .slice a7 t.keys.length c7, .slice a8 t.l.length c8]) ∧ st.bind (valS f) = st'.map (fun l => (t, l)) ∧ RdSt w' b s st' ∧ w.grownBy w' (some b)

/- One value more, behind a row of values that the call has made. -/
theorem box_setL {w : World} {g : Nat} {c0 c1 c2 c3 c4 : Value} (h : BoxIs w g c0 c1 c2 c3 c4) (v : Value) : BoxIs (w.setCell ⟨g, 4, none⟩ v) g c0 c1 c2 c3 v := heap_set h 4 v
theorem step_appendV {w : World} {ops : Array Oper} {o : Oper} {a : Act} {K : Act → World → Prop} {Q : Exit → Act → World → Prop} {E : Prop} (hgd : o.guard = none) (s x : Operand)
    (ho : o.op = .call { callee := .builtin .append, args := #[s, x], argTypes := #[23, 23] }) (B : Nat) (v : Value) (n : Nat) (cs : List Value) (k m : Int) (ss : ByteArray) (a7 a8 : Option Addr) (l7 c7 l8 c8 : Nat) (hs : a.eval s = v)
    (hx : a.eval x = .slice (some ⟨w.heap.size, 0, none⟩) 1 1) (hown : w.ownsRow B 25 5 v n cs) (hB : B ≤ w.heap.size) (hl : n ≤ 1000000)
    (hK : ∀ g cap w', w'.ownsRow B 25 5 (.slice (some ⟨g, 0, none⟩) (n + 1) cap) (n + 1) (cs ++ [.int .i64 k, .int .i64 m, .string ss, .slice a7 l7 c7, .slice a8 l8 c8]) → (w.alloc (.cells #[.int .i64 k, .int .i64 m, .string ss, .slice a7 l7 c7, .slice a8 l8 c8] 25)).grownBy w' v.ownBlock → (v.ownBlock = some g ∨ w.heap.size < g) → K (a.put o.dst (.slice (some ⟨g, 0, none⟩) (n + 1) cap)) w') :
    if Region.wanted o (yielded ops a.tmps) = true then Oper.wp Tryz.prog o a (w.alloc (.cells #[.int .i64 k, .int .i64 m, .string ss, .slice a7 l7 c7, .slice a8 l8 c8] 25)) K Q else E := by
  obtain ⟨i0, hi, hz0, hz1, hz2⟩ := info_parts info25
  have hb : BoxIs (w.alloc (.cells #[.int .i64 k, .int .i64 m, .string ss, .slice a7 l7 c7, .slice a8 l8 c8] 25)) w.heap.size (.int .i64 k) (.int .i64 m) (.string ss) (.slice a7 l7 c7) (.slice a8 l8 c8) := heap_alloc_new w _
  obtain ⟨h1, h2, h3, h4⟩ := slbox hb (one5 _ _ _ _ _ _ _ _ _)
  refine step_append_lies _ hgd s x 23 ho B 25 i0 _ 5 80 Tryz.underlying23 hi hz0 hz1 hz2 rfl (by decide) v n cs hs (hown.alloc _) ⟨w.heap.size, 0, none⟩ 1 1 [.int .i64 k, .int .i64 m, .string ss, .slice a7 l7 c7, .slice a8 l8 c8] hx rfl ?_ h3 (by decide) (by unfold maxLen; omega) (by omega) (by simp; omega) (w.heap.size + 1) (by simp) ?_
  · rcases h4 with ⟨e, _⟩ | ⟨ad, c, e, hc⟩
    · simp at e
    · simp only [Value.slice.injEq, Option.some.injEq] at e
      obtain ⟨rfl, -, -⟩ := e
      exact hc
  · intro g cap w' ho' hg' hor _
    exact hK g cap w' ho' hg' (hor.imp id fun e => by omega)

theorem listS_next {g : List UInt8 → Option (V × List UInt8)} {st : Option (List UInt8)} :
    st.bind (listS g) = (st.bind (markS 91)).bind fun l => match markS 93 l with | some r => some (⟨4, 0, [], [], []⟩, r) | none => (g (l.dropWhile isSp)).bind fun p => itemsS g (p.2.length + 1) [p.1] p.2 := by
  cases st <;> rfl

theorem itemsS_fuel {g : List UInt8 → Option (V × List UInt8)} (hg : Less g) (n : Nat) : ∀ (m : Nat) (acc : List V) (l : List UInt8), l.length < n → l.length < m → itemsS g n acc l = itemsS g m acc l := by
  induction n with
  | zero => intro m acc l h; omega
  | succ n ih =>
    intro m acc l h1 h2
    cases m with
    | zero => omega
    | succ m =>
      simp only [itemsS]
      split
      · rename_i r hr
        have := markS_len hr
        cases hgr : g r with
        | none => rfl
        | some p =>
          have := hg _ _ hgr
          exact ih m _ _ (by omega) (by omega)
      · rfl
def itemsT (g : List UInt8 → Option (V × List UInt8)) (acc : List V) (st : Option (List UInt8)) : Option (V × List UInt8) := st.bind fun l => itemsS g (l.length + 1) acc l
theorem items_step {g : List UInt8 → Option (V × List UInt8)} (hg : Less g) {acc : List V} {st1 st3 : Option (List UInt8)} {t0 : V} (h2 : (st1.bind (markS 44)).isSome = true) (h3 : (st1.bind (markS 44)).bind g = st3.map (fun l => (t0, l))) :
    itemsT g acc st1 = itemsT g (acc ++ [t0]) st3 ∧ togo st3 < togo st1 := by
  cases st1 with
  | none => cases h2
  | some l =>
    cases hm : markS 44 l with
    | none => simp [hm] at h2
    | some r =>
      have hr := markS_len hm
      simp only [Option.bind_some, hm] at h3
      have e : itemsT g acc (some l) = (g r).bind fun p => itemsS g l.length (acc ++ [p.1]) p.2 := by
        show itemsS g (l.length + 1) acc l = _
        simp only [itemsS, hm]
      rw [e, h3]
      cases st3 with
      | none => exact ⟨rfl, by simp [togo]⟩
      | some l3 =>
        have hl := hg _ _ h3
        simp only at hl
        exact ⟨itemsS_fuel hg _ _ _ _ (by simp only; omega) (by simp only; omega), by simp only [togo]; omega⟩
theorem items_end {g : List UInt8 → Option (V × List UInt8)} {acc : List V} {st1 : Option (List UInt8)} (h2 : (st1.bind (markS 44)).isSome = false) :
    itemsT g acc st1 = ((st1.map (List.dropWhile isSp)).bind (markS 93)).map fun r => (⟨4, 0, [], [], acc⟩, r) := by
  cases st1 with
  | none => rfl
  | some l =>
    cases hm : markS 44 l with
    | some r => simp [hm] at h2
    | none =>
      show itemsS g (l.length + 1) acc l = _
      simp only [itemsS, hm]; rfl
theorem list_first {g : List UInt8 → Option (V × List UInt8)} {st st3 : Option (List UInt8)} {t0 : V} (h2 : ((st.bind (markS 91)).bind (markS 93)).isSome = false)
    (h3 : ((st.bind (markS 91)).map (List.dropWhile isSp)).bind g = st3.map (fun l => (t0, l))) : st.bind (listS g) = itemsT g [t0] st3 := by
  rw [listS_next]
  cases hs : st.bind (markS 91) with
  | none =>
    rw [hs] at h3
    cases st3 with
    | none => rfl
    | some l => cases h3
  | some l =>
    rw [hs] at h2 h3
    simp only [Option.bind_some] at h2 ⊢
    have hm : markS 93 l = none := by cases hm : markS 93 l with
      | none => rfl
      | some r => simp [hm] at h2
    rw [hm]
    have h3' : g (l.dropWhile isSp) = st3.map (fun l => (t0, l)) := h3
    simp only [h3']
    cases st3 <;> rfl

/- What holds ahead of each comma. -/
def ListI (f : Nat) (w : World) (b : Nat) (s : ByteArray) (T : Option (V × List UInt8)) (k : Nat) (wr : World) : Prop :=
  ∃ (acc : List V) (st1 : Option (List UInt8)) (g cap : Nat) (cs : List Value), k = togo st1 ∧ itemsT (valS f) acc st1 = T ∧ acc.length + k ≤ 3000 ∧ (st1.getD []).length < f ∧
    BoxIs wr w.heap.size (.int .i64 0) (.int .i64 0) (.string ⟨#[]⟩) (.slice none 0 0) (.slice none 0 0) ∧
    BoxIs wr (w.heap.size + 1) (.int .i64 4) (.int .i64 0) (.string ⟨#[]⟩) (.slice none 0 0) (.slice (some ⟨g, 0, none⟩) acc.length cap) ∧
    wr.ownsRow (w.heap.size + 2) 25 5 (.slice (some ⟨g, 0, none⟩) acc.length cap) acc.length cs ∧ RowV (VIs wr (fun k => w.heap.size + 2 ≤ k ∧ k ≠ g) f) acc cs ∧ RdSt wr b s st1 ∧ Glob wr ∧ w.grownBy wr (some b)

theorem listI_mk {f : Nat} {w w3 w4 : World} {b : Nat} {s : ByteArray} {T : Option (V × List UInt8)} {t0 : V} {st3 : Option (List UInt8)} {acc : List V} {cs : List Value} {lv : Value} {a7 a8 : Option Addr} {c7 c8 g cap g0 : Nat} (hbl : b < w.heap.size)
    (bxC : BoxIs w3 w.heap.size (.int .i64 0) (.int .i64 0) (.string ⟨#[]⟩) (.slice none 0 0) (.slice none 0 0)) (bxA : BoxIs w3 (w.heap.size + 1) (.int .i64 4) (.int .i64 0) (.string ⟨#[]⟩) (.slice none 0 0) lv)
    (hown3 : w3.ownsRow (w.heap.size + 2) 25 5 lv acc.length cs) (hlv : lv.ownBlock = none ∨ lv.ownBlock = some g0) (hrow3 : RowV (VIs w3 (fun k => w.heap.size + 2 ≤ k ∧ k ≠ g0) f) acc cs)
    (hv : VIs w3 (fun k => w.heap.size + 2 ≤ k ∧ k ≠ g0) f t0 (.agg #[.int .i64 t0.kind, .int .i64 t0.n, .string ⟨t0.s.toArray⟩, .slice a7 t0.keys.length c7, .slice a8 t0.l.length c8])) (hT : itemsT (valS f) (acc ++ [t0]) st3 = T) (hl : (st3.getD []).length < f) (hc : acc.length + 1 + togo st3 ≤ 3000) (hr : RdSt w3 b s st3) (hG : Glob w3) (hb4 : 6 ≤ b) (hg : w.grownBy w3 (some b))
    (ho4 : w4.ownsRow (w.heap.size + 2) 25 5 (.slice (some ⟨g, 0, none⟩) (acc.length + 1) cap) (acc.length + 1) (cs ++ [.int .i64 t0.kind, .int .i64 t0.n, .string ⟨t0.s.toArray⟩, .slice a7 t0.keys.length c7, .slice a8 t0.l.length c8])) (hg4 : (w3.alloc (.cells #[.int .i64 t0.kind, .int .i64 t0.n, .string ⟨t0.s.toArray⟩, .slice a7 t0.keys.length c7, .slice a8 t0.l.length c8] 25)).grownBy w4 lv.ownBlock) (hgg : lv.ownBlock = some g ∨ w3.heap.size < g) :
    ListI f w b s T (togo st3) (w4.setCell ⟨w.heap.size + 1, 4, none⟩ (.slice (some ⟨g, 0, none⟩) (acc.length + 1) cap)) := by
  have hlow : ∀ k, lv.ownBlock = some k → w.heap.size + 2 ≤ k := fun k hk => (hown3.lt k hk).1
  have g34 : w3.grownBy w4 lv.ownBlock := gb_trans (World.grownBy_alloc w3 _ _) hg4
  have g5 : w4.grownBy (w4.setCell ⟨w.heap.size + 1, 4, none⟩ (.slice (some ⟨g, 0, none⟩) (acc.length + 1) cap)) (some (w.heap.size + 1)) := gb_set (gb_refl _ _) _ _
  have ne : ∀ k, k < w.heap.size + 2 → some k ≠ lv.ownBlock := fun k hk e => by have := hlow k e.symm; omega
  have conv : ∀ x v, VIs w3 (fun k => w.heap.size + 2 ≤ k ∧ k ≠ g0) f x v → VIs (w4.setCell ⟨w.heap.size + 1, 4, none⟩ (.slice (some ⟨g, 0, none⟩) (acc.length + 1) cap)) (fun k => w.heap.size + 2 ≤ k ∧ k ≠ g) f x v := by
    intro x v h
    have h1 := (h.below.grown g34 (fun k hk e => by rcases hlv with h0 | h0 <;> rw [h0] at e <;> simp at e; exact hk.1.2 e)).grown g5 (fun k hk e => by simp at e; omega)
    refine h1.weak fun k hk => ⟨hk.1.1, fun e => ?_⟩
    subst e
    rcases hgg with h0 | h0
    · rcases hlv with h2 | h2
      · rw [h2] at h0; cases h0
      · rw [h2] at h0; cases h0; exact hk.1.2 rfl
    · omega
  refine ⟨acc ++ [t0], st3, g, cap, cs ++ [.int .i64 t0.kind, .int .i64 t0.n, .string ⟨t0.s.toArray⟩, .slice a7 t0.keys.length c7, .slice a8 t0.l.length c8], rfl, hT, by simp only [List.length_append, List.length_cons, List.length_nil]; omega, hl, ?_, ?_, ?_, ?_, ?_, ?_, ?_⟩
  · exact (bxC.grown g34 (ne _ (by omega))).grown g5 (by simp)
  · have := box_setL (bxA.grown g34 (ne _ (by omega))) (.slice (some ⟨g, 0, none⟩) (acc.length + 1) cap)
    simpa using this
  · have := own_kept' ho4 g5 (by omega)
    simpa using this
  · have rx : RowV (VIs (w4.setCell ⟨w.heap.size + 1, 4, none⟩ (.slice (some ⟨g, 0, none⟩) (acc.length + 1) cap)) (fun k => w.heap.size + 2 ≤ k ∧ k ≠ g) f) [t0] [.int .i64 t0.kind, .int .i64 t0.n, .string ⟨t0.s.toArray⟩, .slice a7 t0.keys.length c7, .slice a8 t0.l.length c8] := ⟨_, _, _, _, _, [], rfl, conv _ _ hv, rfl⟩
    exact rx.append (hrow3.imp conv)
  · exact (hr.grown g34 (ne _ (by omega))).grown g5 (by simp; omega)
  · exact (hG.grown g34 (fun k hk => by have := hlow k hk; have := hG.size; omega)).grown g5 (fun k hk => by cases hk; have := hG.size; omega)
  · exact gb_setA (gb_own hg g34 (fun k hk => by have := hlow k hk; omega)) (by omega) _ _

set_option maxRecDepth 100000 in
set_option maxHeartbeats 4000000 in
theorem list_st (f : Nat) (ih : ValC f) (w : World) (b : Nat) (s : ByteArray) (st : Option (List UInt8)) (h : RdSt w b s st) (hG : Glob w) (hb4 : 6 ≤ b) (hf0 : 0 < f) (hlen : (st.getD []).length < f + 1) :
    Calls Tryz.prog 95 #[.pointer (some ⟨b, 0, none⟩)] w fun e w' => ∃ (t : V) (st' : Option (List UInt8)) (a7 a8 : Option Addr) (c7 c8 : Nat),
      e = .returned (.agg #[.int .i64 t.kind, .int .i64 t.n, .string ⟨t.s.toArray⟩, .slice a7 t.keys.length c7, .slice a8 t.l.length c8]) ∧
      VIs w' (fun k => w.heap.size ≤ k) (f + 1) t (.agg #[.int .i64 t.kind, .int .i64 t.n, .string ⟨t.s.toArray⟩, .slice a7 t.keys.length c7, .slice a8 t.l.length c8]) ∧ st.bind (listS (valS f)) = st'.map (fun l => (t, l)) ∧ RdSt w' b s st' ∧ w.grownBy w' (some b) := by
  have H := hidI h
  have HG := hidI hG
  have IH := hidI ih
  have hbl := h.lt
  clear h hG ih
  go_enter Tryz.func95, Tryz.ntmps95
  go_wp2_with fail
  refine (need_st _ b s st 91 91 rfl (by decide) (by exact H.out.grown (gb_alloc (World.grownBy_alloc w _ none) _) (by simp))).mono ?_
  rintro e w1 ⟨rfl, h1, hg1⟩
  have bx1 : Hid (BoxIs w1 w.heap.size (.int .i64 0) (.int .i64 0) (.string ⟨#[]⟩) (.slice none 0 0) (.slice none 0 0) ∧ BoxIs w1 (w.heap.size + 1) (.int .i64 4) (.int .i64 0) (.string ⟨#[]⟩) (.slice none 0 0) (.slice none 0 0)) :=
    ⟨BoxIs.grown (h2a w _ _) hg1 (by simp; omega), BoxIs.grown (h2b w _ _) hg1 (by simp; omega)⟩
  have G1 : Hid (RdSt w1 b s (st.bind (markS 91)) ∧ w.grownBy w1 (some b)) := ⟨h1, gb_trans (gb_alloc (gb_alloc (gb_refl _ _) _) _) hg1⟩
  clear h1 hg1
  go_wp2_with fail
  refine (mark_st _ b s (st.bind (markS 91)) 93 93 rfl (by decide) (by exact G1.out.1)).mono ?_
  rintro e w2 ⟨rfl, h2, hg2⟩
  have bx2 : Hid (BoxIs w2 w.heap.size (.int .i64 0) (.int .i64 0) (.string ⟨#[]⟩) (.slice none 0 0) (.slice none 0 0) ∧ BoxIs w2 (w.heap.size + 1) (.int .i64 4) (.int .i64 0) (.string ⟨#[]⟩) (.slice none 0 0) (.slice none 0 0)) :=
    ⟨bx1.out.1.grown hg2 (by simp; omega), bx1.out.2.grown hg2 (by simp; omega)⟩
  have G2 : Hid (RdSt w2 b s (if ((st.bind (markS 91)).bind (markS 93)).isSome then (st.bind (markS 91)).bind (markS 93) else (st.bind (markS 91)).map (List.dropWhile isSp)) ∧ w.grownBy w2 (some b)) := ⟨h2, gb_trans G1.out.2 hg2⟩
  obtain ⟨x0, x1, x2, x3, x4, y0, y1, y2, y3, y4⟩ := bx2.out.1.c
  obtain ⟨p0, p1, p2, p3, p4, -, -, -, p9, p10⟩ := bx2.out.2.c
  clear h2 hg2 bx1 G1
  cases hm : ((st.bind (markS 91)).bind (markS 93)).isSome with
  | true =>
    have HM := hidI hm
    obtain ⟨z0, z1, z2, z3, z4, -⟩ := (bx2.out.1.set (.int .i64 4) (.int .i64 0) (.string ⟨#[]⟩) (.slice none 0 0) (.slice none 0 0)).c
    have Z : Hid (_ ∧ _ ∧ _ ∧ _ ∧ _) := ⟨z0, z1, z2, z3, z4⟩
    clear z0 z1 z2 z3 z4 hm
    go_wp2_with fail
    obtain ⟨z0, z1, z2, z3, z4⟩ := Z.out
    refine bodyPost_ret (v := leaf 4 0 []) ?_ rfl ?_
    · simp only [set5, str] at z0 z1 z2 z3 z4
      simp [results, Tryz.results95, go_sem, z0, z1, z2, z3, z4, leaf, str]
    · refine ⟨leafV 4 0 [], (st.bind (markS 91)).bind (markS 93), none, none, 0, 0, rfl, leaf_is _ _ f _ _ _ (by unfold I64; omega) (by unfold I64; omega) (by simp), ?_, ?_, ?_⟩
      · rw [listS_next]
        cases hs : st.bind (markS 91) with
        | none => rw [hs] at HM; exact absurd HM.out (by simp)
        | some l =>
          rw [hs] at HM
          cases h9 : markS 93 l with
          | none => simp [h9] at HM; exact absurd HM.out (by simp)
          | some r => simp only [Option.bind_some, h9]; rfl
      · have := G2.out.1
        rw [if_pos HM.out] at this
        exact this.of_heap ((set5_gb w2 w.heap.size _ _ _ _ _).block b this.lt (by simp; omega))
      · exact gb_own G2.out.2 (set5_gb w2 w.heap.size _ _ _ _ _) (by intro k hk; cases hk; exact Nat.le_refl _)
  | false =>
    have HM := hidI hm
    have G3 : Hid (RdSt w2 b s ((st.bind (markS 91)).map (List.dropWhile isSp)) ∧ w.grownBy w2 (some b) ∧ Glob w2) := by
      have := G2.out.1
      rw [if_neg (by rw [HM.out]; simp)] at this
      exact ⟨this, G2.out.2, HG.out.grown G2.out.2 (by intro k hk; cases hk; exact hb4)⟩
    clear hm G2
    have call5 : Hid (∀ W, W.heap = w2.heap → W.os = w2.os → W.tape = w2.tape → W.output = w2.output → Calls Tryz.prog 63 #[.pointer (some ⟨b, 0, none⟩)] W fun e w' => ∃ (t : V) (st' : Option (List UInt8)) (a7 a8 : Option Addr) (c7 c8 : Nat),
        e = .returned (.agg #[.int .i64 t.kind, .int .i64 t.n, .string ⟨t.s.toArray⟩, .slice a7 t.keys.length c7, .slice a8 t.l.length c8]) ∧ VIs w' (fun k => w2.heap.size ≤ k) f t (.agg #[.int .i64 t.kind, .int .i64 t.n, .string ⟨t.s.toArray⟩, .slice a7 t.keys.length c7, .slice a8 t.l.length c8]) ∧ st.bind (listS (valS f)) = itemsT (valS f) [t] st' ∧ (st'.getD []).length < f ∧ 1 + togo st' ≤ 3000 ∧ RdSt w' b s st' ∧ w2.grownBy w' (some b)) := by
      intro W e1 e2 e3 e4
      have hl2 : (((st.bind (markS 91)).map (List.dropWhile isSp)).getD []).length < f := by
        cases hs : st.bind (markS 91) with
        | none => exact hf0
        | some l =>
          cases st with
          | none => cases hs
          | some l0 =>
            have := markS_len (show markS 91 l0 = some l from hs)
            have := dropSp_len l
            simp only [Option.getD_some, Option.map_some] at hlen ⊢
            omega
      have hgW : w2.grownBy W (some b) := ⟨e2, e3, e4, by rw [e1]; exact Nat.le_refl _, fun k _ _ => by rw [e1]⟩
      refine (IH.out W b s _ (G3.out.1.of_heap (by rw [e1])) (G3.out.2.2.same e1) hb4 hl2).mono ?_
      rintro e w' ⟨t, st', a7, a8, c7, c8, rfl, hv, hst, hr, hg⟩
      rw [e1] at hv
      refine ⟨t, st', a7, a8, c7, c8, rfl, hv, list_first HM.out hst, ?_, ?_, hr, gb_trans hgW hg⟩
      · cases st' with
        | none => exact hf0
        | some l' =>
          cases hs : (st.bind (markS 91)).map (List.dropWhile isSp) with
          | none => rw [hs] at hst; cases hst
          | some l1 =>
            rw [hs] at hst hl2
            have := valS_len f l1 _ hst
            simp only [Option.getD_some] at hl2 ⊢
            simp only at this
            omega
      · cases st' with
        | none => simp [togo]
        | some l' => have := hr.len; simp only [togo]; omega
    go_upto_region 5 with fail
    go_cut [] (fun wc => ∃ k, ListI f w b s (st.bind (listS (valS f))) k wc)
    case first =>
      go_region_law ((first | (refine step_appendV (by rfl) _ _ (by rfl) (w.heap.size + 2) (.slice none 0 0) 0 [] t0.kind t0.n ⟨t0.s.toArray⟩ a7 a8 t0.keys.length c7 t0.l.length c8 (by rfl) (by rfl) (World.ownsRow_nil _ _ _ _) hsz3 (by omega) ?_; intro g cap w4 ho4 hg4 hgg4; obtain ⟨x0, x1, x2, x3, x4, y0, y1, y2, y3, y4⟩ := (bx3.out.1.grown (World.grownBy_alloc _ _ none) (by simp)).grown hg4 (by simp [Value.ownBlock]) |>.c; obtain ⟨p0, p1, p2, p3, p4, -, -, -, p9, p10⟩ := (bx3.out.2.grown (World.grownBy_alloc _ _ none) (by simp)).grown hg4 (by simp [Value.ownBlock]) |>.c) | (go_simp; go_at_call 63; refine (call5.out _ (by rfl) (by rfl) (by rfl) (by rfl)).mono ?_; rintro e w3 ⟨t0, st3, a7, a8, c7, c8, rfl, hv3, hT3, hl3, ht3, hr3, hg3⟩; have hsz3 : w.heap.size + 2 ≤ w3.heap.size := Nat.le_trans bx2.out.2.lt hg3.size; have bx3 : Hid (BoxIs w3 w.heap.size (.int .i64 0) (.int .i64 0) (.string ⟨#[]⟩) (.slice none 0 0) (.slice none 0 0) ∧ BoxIs w3 (w.heap.size + 1) (.int .i64 4) (.int .i64 0) (.string ⟨#[]⟩) (.slice none 0 0) (.slice none 0 0)) := ⟨bx2.out.1.grown hg3 (by simp; omega), bx2.out.2.grown hg3 (by simp; omega)⟩; have k4 : ∀ o, (w3.alloc o).cell? ⟨w.heap.size + 1, 4, none⟩ = some (.slice none 0 0) := fun o => (bx3.out.2.grown (World.grownBy_alloc w3 o none) (by simp)).c.2.2.2.2.1; have q4 := bx3.out.2.c.2.2.2.2.1; have V3 : Hid (_ ∧ _ ∧ _ ∧ _ ∧ _ ∧ _) := ⟨hv3, hT3, hl3, ht3, hr3, hg3⟩; clear hv3 hT3 hl3 ht3 hr3 hg3)))
      all_goals
        go_wp2_with fail
        go_meet
        case rel =>
          obtain ⟨hv3, hT3, hl3, ht3, hr3, hg3⟩ := V3.out
          refine ⟨togo st3, listI_mk (acc := []) (g0 := w3.heap.size) hbl bx3.out.1 bx3.out.2 (World.ownsRow_nil _ _ _ _) (.inl rfl) rfl ?_ hT3.symm hl3 (by simpa using ht3) hr3 (G3.out.2.2.grown hg3 (by intro k hk; cases hk; exact hb4)) hb4 (gb_trans G3.out.2.1 hg3) ho4 hg4 hgg4⟩
          exact hv3.below.weak fun k hk => ⟨Nat.le_trans bx2.out.2.lt hk.1, by omega⟩
    case rest =>
      obtain ⟨k0, hI0⟩ := hcut
      have I0 := hidI hI0
      clear hI0 x0 x1 x2 x3 x4 y0 y1 y2 y3 y4 p0 p1 p2 p3 p4 p9 p10 call5 bx2 G3
      go_wp2_with fail
      go_loopg [] k0 (fun k wr => ListI f w b s (st.bind (listS (valS f))) k wr)
      case atStart => exact I0.out
      case round =>
        obtain ⟨acc, st1, g0, cap0, cs, hk, hT, hc, hl1, bxC, bxA, ho, hrow, hr, hGr, hg⟩ := hrel
        have A : Hid (gk = togo st1 ∧ itemsT (valS f) acc st1 = st.bind (listS (valS f)) ∧ acc.length + gk ≤ 3000 ∧ (st1.getD []).length < f ∧ BoxIs wr w.heap.size (.int .i64 0) (.int .i64 0) (.string ⟨#[]⟩) (.slice none 0 0) (.slice none 0 0) ∧ BoxIs wr (w.heap.size + 1) (.int .i64 4) (.int .i64 0) (.string ⟨#[]⟩) (.slice none 0 0) (.slice (some ⟨g0, 0, none⟩) acc.length cap0) ∧ wr.ownsRow (w.heap.size + 2) 25 5 (.slice (some ⟨g0, 0, none⟩) acc.length cap0) acc.length cs ∧ RowV (VIs wr (fun k => w.heap.size + 2 ≤ k ∧ k ≠ g0) f) acc cs ∧ RdSt wr b s st1 ∧ Glob wr ∧ w.grownBy wr (some b)) := ⟨hk, hT, hc, hl1, bxC, bxA, ho, hrow, hr, hGr, hg⟩
        have hacc : acc.length ≤ 3000 := by omega
        clear hk hT hc hl1 bxC bxA ho hrow hr hGr hg
        go_wp2_with fail
        refine (mark_st _ b s st1 44 44 rfl (by decide) (by exact A.out.2.2.2.2.2.2.2.2.1)).mono ?_
        rintro e w2 ⟨rfl, h2, hg2⟩
        have D : Hid (RdSt w2 b s (if (st1.bind (markS 44)).isSome then st1.bind (markS 44) else st1.map (List.dropWhile isSp)) ∧ wr.grownBy w2 (some b) ∧ BoxIs w2 w.heap.size (.int .i64 0) (.int .i64 0) (.string ⟨#[]⟩) (.slice none 0 0) (.slice none 0 0) ∧ BoxIs w2 (w.heap.size + 1) (.int .i64 4) (.int .i64 0) (.string ⟨#[]⟩) (.slice none 0 0) (.slice (some ⟨g0, 0, none⟩) acc.length cap0) ∧ w2.ownsRow (w.heap.size + 2) 25 5 (.slice (some ⟨g0, 0, none⟩) acc.length cap0) acc.length cs ∧ RowV (VIs w2 (fun k => w.heap.size + 2 ≤ k ∧ k ≠ g0) f) acc cs ∧ Glob w2 ∧ w.grownBy w2 (some b)) := by
          obtain ⟨hk, hT, hc, hl1, bxC, bxA, ho, hrow, hr, hGr, hg⟩ := A.out
          exact ⟨h2, hg2, bxC.grown hg2 (by simp; omega), bxA.grown hg2 (by simp; omega), own_kept' ho hg2 (by omega), hrow.imp (fun x v h => h.grown hg2 (fun k hk e => by simp at e; omega)), hGr.grown hg2 (by intro k hk; cases hk; exact hb4), gb_trans hg hg2⟩
        clear h2 hg2
        obtain ⟨x0, x1, x2, x3, x4, y0, y1, y2, y3, y4⟩ := D.out.2.2.1.c
        obtain ⟨p0, p1, p2, p3, p4, -, -, -, p9, p10⟩ := D.out.2.2.2.1.c
        cases hm : (st1.bind (markS 44)).isSome with
        | true =>
          have HM := hidI hm
          have R2 : Hid (RdSt w2 b s (st1.bind (markS 44))) := by have := D.out.1; rw [if_pos hm] at this; exact this
          clear hm
          have call7 : Hid (∀ W, W.heap = w2.heap → W.os = w2.os → W.tape = w2.tape → W.output = w2.output → Calls Tryz.prog 63 #[.pointer (some ⟨b, 0, none⟩)] W fun e w' => ∃ (t : V) (st' : Option (List UInt8)) (a7 a8 : Option Addr) (c7 c8 : Nat),
              e = .returned (.agg #[.int .i64 t.kind, .int .i64 t.n, .string ⟨t.s.toArray⟩, .slice a7 t.keys.length c7, .slice a8 t.l.length c8]) ∧ VIs w' (fun k => w2.heap.size ≤ k) f t (.agg #[.int .i64 t.kind, .int .i64 t.n, .string ⟨t.s.toArray⟩, .slice a7 t.keys.length c7, .slice a8 t.l.length c8]) ∧ st.bind (listS (valS f)) = itemsT (valS f) (acc ++ [t]) st' ∧ togo st' < gk ∧ (st'.getD []).length < f ∧ RdSt w' b s st' ∧ w2.grownBy w' (some b)) := by
            intro W e1 e2 e3 e4
            obtain ⟨hk, hT, hc, hl1, -⟩ := A.out
            have hl2 : ((st1.bind (markS 44)).getD []).length < f := by
              cases st1 with
              | none => exact hf0
              | some l0 =>
                cases hs : markS 44 l0 with
                | none => simp only [Option.bind_some, hs]; exact hf0
                | some l =>
                  have := markS_len hs
                  simp only [Option.bind_some, hs, Option.getD_some] at hl1 ⊢
                  omega
            have hgW : w2.grownBy W (some b) := ⟨e2, e3, e4, by rw [e1]; exact Nat.le_refl _, fun k _ _ => by rw [e1]⟩
            refine (IH.out W b s _ (R2.out.of_heap (by rw [e1])) (D.out.2.2.2.2.2.2.1.same e1) hb4 hl2).mono ?_
            rintro e w' ⟨t, st', a7, a8, c7, c8, rfl, hv, hst, hr, hg⟩
            rw [e1] at hv
            obtain ⟨i1, i2⟩ := items_step (acc := acc) (valS_len f) HM.out hst
            refine ⟨t, st', a7, a8, c7, c8, rfl, hv, by rw [← hT, i1], by rw [hk]; exact i2, ?_, hr, gb_trans hgW hg⟩
            cases st' with
            | none => exact hf0
            | some l' =>
              cases hs : st1.bind (markS 44) with
              | none => rw [hs] at hst; cases hst
              | some l1 =>
                rw [hs] at hst hl2
                have := valS_len f l1 _ hst
                simp only [Option.getD_some] at hl2 ⊢
                simp only at this
                omega
          go_wp2_with fail
          go_region_law ((first | (refine step_appendV (by rfl) _ _ (by rfl) (w.heap.size + 2) (.slice (some ⟨g0, 0, none⟩) acc.length cap0) acc.length cs t0.kind t0.n ⟨t0.s.toArray⟩ a7 a8 t0.keys.length c7 t0.l.length c8 (by rfl) (by rfl) bx3.out.2.2 hsz3 (by omega) ?_; intro g cap w4 ho4 hg4 hgg4; obtain ⟨x0, x1, x2, x3, x4, y0, y1, y2, y3, y4⟩ := (bx3.out.1.grown (World.grownBy_alloc _ _ none) (by simp)).grown hg4 (hne4.out _ (by omega)) |>.c; obtain ⟨p0, p1, p2, p3, p4, -, -, -, p9, p10⟩ := (bx3.out.2.1.grown (World.grownBy_alloc _ _ none) (by simp)).grown hg4 (hne4.out _ (by omega)) |>.c) | (go_simp; go_at_call 63; refine (call7.out _ (by rfl) (by rfl) (by rfl) (by rfl)).mono ?_; rintro e w3 ⟨t0, st3, a7, a8, c7, c8, rfl, hv3, hT3, hl3, ht3, hr3, hg3⟩; have hsz3 : w.heap.size + 2 ≤ w3.heap.size := Nat.le_trans D.out.2.2.2.1.lt hg3.size; have bx3 : Hid (BoxIs w3 w.heap.size (.int .i64 0) (.int .i64 0) (.string ⟨#[]⟩) (.slice none 0 0) (.slice none 0 0) ∧ BoxIs w3 (w.heap.size + 1) (.int .i64 4) (.int .i64 0) (.string ⟨#[]⟩) (.slice none 0 0) (.slice (some ⟨g0, 0, none⟩) acc.length cap0) ∧ w3.ownsRow (w.heap.size + 2) 25 5 (.slice (some ⟨g0, 0, none⟩) acc.length cap0) acc.length cs) := ⟨D.out.2.2.1.grown hg3 (by simp; omega), D.out.2.2.2.1.grown hg3 (by simp; omega), own_kept' D.out.2.2.2.2.1 hg3 (by omega)⟩; have hne4 : Hid (∀ k, k < w.heap.size + 2 → some k ≠ (Value.slice (some ⟨g0, 0, none⟩) acc.length cap0).ownBlock) := (fun k hk e => by have := (bx3.out.2.2.lt k e.symm).1; omega); have k4 : ∀ o, (w3.alloc o).cell? ⟨w.heap.size + 1, 4, none⟩ = some (.slice (some ⟨g0, 0, none⟩) acc.length cap0) := fun o => (bx3.out.2.1.grown (World.grownBy_alloc w3 o none) (by simp)).c.2.2.2.2.1; have q4 := bx3.out.2.1.c.2.2.2.2.1; have V3 : Hid (_ ∧ _ ∧ _ ∧ _ ∧ _ ∧ _) := ⟨hv3, hT3, hl3, ht3, hr3, hg3⟩; clear hv3 hT3 hl3 ht3 hr3 hg3)))
          all_goals
            go_wp2_with fail
            obtain ⟨hv3, hT3, htg3, hl3, hr3, hg3⟩ := V3.out
            go_roundg (togo st3)
            case measure => exact htg3
            case rel =>
              refine listI_mk (g0 := g0) hbl bx3.out.1 bx3.out.2.1 bx3.out.2.2 (.inr rfl) (D.out.2.2.2.2.2.1.imp fun x v h => h.grown hg3 (fun k hk e => by simp at e; omega)) ?_ hT3.symm hl3 (by have := A.out.2.2.1; omega) hr3 (D.out.2.2.2.2.2.2.1.grown hg3 (by intro k hk; cases hk; exact hb4)) hb4 (gb_trans D.out.2.2.2.2.2.2.2 hg3) ho4 hg4 hgg4
              exact hv3.weak fun k hk => ⟨Nat.le_trans D.out.2.2.2.1.lt hk, fun e => by have := (D.out.2.2.2.2.1.lt g0 rfl).2; omega⟩
        | false =>
          have HM := hidI hm
          have R2 : Hid (RdSt w2 b s (st1.map (List.dropWhile isSp))) := by have := D.out.1; rw [if_neg (by rw [hm]; simp)] at this; exact this
          clear hm
          go_wp2_with fail
          refine (need_st _ b s _ 93 93 rfl (by decide) (by exact R2.out)).mono ?_
          rintro e w3 ⟨rfl, h3, hg3⟩
          have E : Hid (RdSt w3 b s ((st1.map (List.dropWhile isSp)).bind (markS 93)) ∧ w.grownBy w3 (some b) ∧ BoxIs w3 w.heap.size (.int .i64 0) (.int .i64 0) (.string ⟨#[]⟩) (.slice none 0 0) (.slice none 0 0) ∧ BoxIs w3 (w.heap.size + 1) (.int .i64 4) (.int .i64 0) (.string ⟨#[]⟩) (.slice none 0 0) (.slice (some ⟨g0, 0, none⟩) acc.length cap0) ∧ w3.ownsRow (w.heap.size + 2) 25 5 (.slice (some ⟨g0, 0, none⟩) acc.length cap0) acc.length cs ∧ RowV (VIs w3 (fun k => w.heap.size + 2 ≤ k ∧ k ≠ g0) f) acc cs) := by
            obtain ⟨d1, d2, bxC, bxA, ho, hrow, hGr, hg⟩ := D.out
            exact ⟨h3, gb_trans hg hg3, bxC.grown hg3 (by simp; omega), bxA.grown hg3 (by simp; omega), own_kept' ho hg3 (by omega), hrow.imp (fun x v h => h.grown hg3 (fun k hk e => by simp at e; omega))⟩
          clear h3 hg3 x0 x1 x2 x3 x4 y0 y1 y2 y3 y4 p0 p1 p2 p3 p4 p9 p10
          obtain ⟨x0, x1, x2, x3, x4, y0, y1, y2, y3, y4⟩ := E.out.2.2.1.c
          obtain ⟨p0, p1, p2, p3, p4, -⟩ := E.out.2.2.2.1.c
          obtain ⟨z0, z1, z2, z3, z4, -⟩ := (E.out.2.2.1.set (.int .i64 4) (.int .i64 0) (.string ⟨#[]⟩) (.slice none 0 0) (.slice (some ⟨g0, 0, none⟩) acc.length cap0)).c
          have Z : Hid (_ ∧ _ ∧ _ ∧ _ ∧ _) := ⟨z0, z1, z2, z3, z4⟩
          clear z0 z1 z2 z3 z4
          go_wp2_with fail
          obtain ⟨z0, z1, z2, z3, z4⟩ := Z.out
          refine bodyPost_ret (v := .agg #[.int .i64 4, .int .i64 0, .string ⟨#[]⟩, .slice none 0 0, .slice (some ⟨g0, 0, none⟩) acc.length cap0]) ?_ rfl ?_
          · simp only [set5] at z0 z1 z2 z3 z4
            simp [results, Tryz.results95, go_sem, z0, z1, z2, z3, z4]
          · obtain ⟨e1, e2, e3, e4, e5, e6⟩ := E.out
            have g5 := set5_gb w3 w.heap.size (.int .i64 4) (.int .i64 0) (.string ⟨#[]⟩) (.slice none 0 0) (.slice (some ⟨g0, 0, none⟩) acc.length cap0)
            refine ⟨⟨4, 0, [], [], acc⟩, (st1.map (List.dropWhile isSp)).bind (markS 93), none, some ⟨g0, 0, none⟩, 0, cap0, rfl, ?_, ?_, ?_, ?_⟩
            · refine ⟨_, _, rfl, by unfold I64; simp, by unfold I64; simp, by simp, ⟨by simp, .inl ⟨rfl, none, rfl⟩⟩, ?_⟩
              have e6' : RowV (VIs (set5 w3 w.heap.size (.int .i64 4) (.int .i64 0) (.string ⟨#[]⟩) (.slice none 0 0) (.slice (some ⟨g0, 0, none⟩) acc.length cap0)) (fun k => w.heap.size ≤ k) f) acc cs :=
                e6.imp fun x v h => (h.grown g5 (fun k hk e => by simp at e; omega)).weak fun k hk => by omega
              exact own_vals rfl (own_kept' e5 g5 (by omega)) e6' (fun k hk => by omega) (by unfold maxLen; simp only; omega)
            · rw [← A.out.2.1, items_end HM.out]
            · exact e1.of_heap (g5.block b e1.lt (by simp; omega))
            · exact gb_own e2 g5 (by intro k hk; cases hk; exact Nat.le_refl _)
end Go.Proofs.YtmdemcjmcnfjmaaGreatDoor

set_option linter.unusedSimpArgs false
set_option linter.unusedVariables false
namespace Go.Proofs.YtmdemcjmcnfjmaaGreatDoor
open Go.RowKit

theorem VIs.form {w : World} {ok : Nat → Prop} {d : Nat} {t : V} {v : Value} (h : VIs w ok d t v) : ∃ (a7 a8 : Option Addr) (c7 c8 : Nat), v = (.agg #[.int .i64 t.kind, .int .i64 t.n, .string ⟨t.s.toArray⟩, .slice a7 t.keys.length c7, .slice a8 t.l.length c8]) := by
  match d, h with
  | d + 1, h =>
    obtain ⟨ks, ls, e, h1, h2, h3, h4, h5⟩ := h
    obtain ⟨a1, c1, rfl⟩ := h4.form
    obtain ⟨a2, c2, rfl⟩ := h5.form
    exact ⟨_, _, _, _, e⟩
theorem withV_paired {t : V} {key : List UInt8} {x : V} (hp : pairedV t = true) : pairedV (withV t key x) = true ∧ (withV t key x).l.length ≤ t.l.length + 1 := by
  have hk : t.kind = 5 ∧ t.keys.length = t.l.length := by simpa [pairedV] using hp
  unfold withV
  rw [if_pos hp]
  split
  · rename_i i hi
    have := (idxL_lt hi).1
    simp only [pairedV, Bool.and_eq_true, decide_eq_true_eq, List.length_append, List.length_cons, List.length_take, List.length_drop]
    omega
  · simp only [pairedV, Bool.and_eq_true, decide_eq_true_eq, List.length_append, List.length_cons, List.length_take, List.length_drop]
    omega
theorem memS_of {g : List UInt8 → Option (V × List UInt8)} {t x : V} {key : List UInt8} {st st1 st3 : Option (List UInt8)} (h1 : st.bind quotS = st1.map (fun l => (key, l))) (h3 : (st1.bind (markS 58)).bind g = st3.map (fun l => (x, l))) :
    st.bind (memS g t) = if (memV t key).isSome then none else st3.map (fun l => (withV t key x, l)) := by
  have e : st.bind (memS g t) = (st.bind quotS).bind fun q => (markS 58 q.2).bind fun l => (g l).bind fun p => if (memV t q.1).isSome then none else some (withV t q.1 p.1, p.2) := by
    cases st <;> rfl
  rw [e, h1]
  cases st1 with
  | none =>
    cases st3 with
    | none => simp
    | some l => cases h3
  | some l1 =>
    simp only [Option.map_some, Option.bind_some] at h3 ⊢
    cases hm : markS 58 l1 with
    | none =>
      rw [hm] at h3
      cases st3 with
      | none => simp
      | some l => cases h3
    | some l2 =>
      rw [hm] at h3
      simp only [Option.bind_some] at h3 ⊢
      rw [h3]
      cases st3 <;> simp

set_option maxRecDepth 100000 in
set_option maxHeartbeats 4000000 in
theorem member_st (hW : WithC) (f : Nat) (ih : ValC f) (w : World) (b B : Nat) (s : ByteArray) (st : Option (List UInt8)) (t : V) (a7 a8 : Option Addr) (c7 c8 : Nat) (h : RdSt w b s st) (hG : Glob w) (hb4 : 6 ≤ b) (hf0 : 0 < f) (hlen : (st.getD []).length < f + 1) (hbB : b < B) (hBw : B ≤ w.heap.size)
    (hv : VIs w (fun k => B ≤ k) (f + 1) t (.agg #[.int .i64 t.kind, .int .i64 t.n, .string ⟨t.s.toArray⟩, .slice a7 t.keys.length c7, .slice a8 t.l.length c8])) (hp : pairedV t = true) (htl : t.l.length ≤ 10000) :
    Calls Tryz.prog 134 #[.pointer (some ⟨b, 0, none⟩), (.agg #[.int .i64 t.kind, .int .i64 t.n, .string ⟨t.s.toArray⟩, .slice a7 t.keys.length c7, .slice a8 t.l.length c8])] w fun e w' => ∃ (t' : V) (st' : Option (List UInt8)) (a5 a6 : Option Addr) (c5 c6 : Nat),
      e = .returned (.agg #[.int .i64 t'.kind, .int .i64 t'.n, .string ⟨t'.s.toArray⟩, .slice a5 t'.keys.length c5, .slice a6 t'.l.length c6]) ∧ VIs w' (fun k => B ≤ k) (f + 1) t' (.agg #[.int .i64 t'.kind, .int .i64 t'.n, .string ⟨t'.s.toArray⟩, .slice a5 t'.keys.length c5, .slice a6 t'.l.length c6]) ∧ pairedV t' = true ∧ t'.l.length ≤ t.l.length + 1 ∧
      st.bind (memS (valS f) t) = st'.map (fun l => (t', l)) ∧ RdSt w' b s st' ∧ w.grownBy w' (some b) := by
  have H : Hid (RdSt w b s st ∧ Glob w) := ⟨h, hG⟩
  have HV := hidI hv
  have IH := hidI ih
  have HW := hidI hW
  have HP := hidI hp
  have hbl := h.lt
  clear h hG hv ih hW hp
  go_enter Tryz.func134, Tryz.ntmps134
  go_wp2_with fail
  refine (quoted_st _ b s st (by exact H.out.1.grown (gb_alloc (World.grownBy_alloc w _ none) _) (by simp))).mono ?_
  rintro e w1 ⟨key, st1, rfl, hq, hkl, h1, hg1⟩
  have K1 : Hid (st.bind quotS = st1.map (fun l => (key, l)) ∧ RdSt w1 b s st1 ∧ w.grownBy w1 (some b) ∧ BoxIs w1 w.heap.size (.int .i64 t.kind) (.int .i64 t.n) (.string ⟨t.s.toArray⟩) (.slice a7 t.keys.length c7) (.slice a8 t.l.length c8) ∧ BoxIs w1 (w.heap.size + 1) (.int .i64 0) (.int .i64 0) (.string ⟨#[]⟩) (.slice none 0 0) (.slice none 0 0)) :=
    ⟨hq, h1, gb_trans (gb_alloc (gb_alloc (gb_refl _ _) _) _) hg1, BoxIs.grown (h2a w _ _) hg1 (by simp; omega), BoxIs.grown (h2b w _ _) hg1 (by simp; omega)⟩
  clear hq h1 hg1
  go_wp2_with fail
  refine (need_st _ b s st1 58 58 rfl (by decide) (by exact K1.out.2.1)).mono ?_
  rintro e w2 ⟨rfl, h2, hg2⟩
  have K2 : Hid (RdSt w2 b s (st1.bind (markS 58)) ∧ w.grownBy w2 (some b) ∧ BoxIs w2 w.heap.size (.int .i64 t.kind) (.int .i64 t.n) (.string ⟨t.s.toArray⟩) (.slice a7 t.keys.length c7) (.slice a8 t.l.length c8) ∧ BoxIs w2 (w.heap.size + 1) (.int .i64 0) (.int .i64 0) (.string ⟨#[]⟩) (.slice none 0 0) (.slice none 0 0) ∧ Glob w2) :=
    ⟨h2, gb_trans K1.out.2.2.1 hg2, K1.out.2.2.2.1.grown hg2 (by simp; omega), K1.out.2.2.2.2.grown hg2 (by simp; omega), H.out.2.grown (gb_trans K1.out.2.2.1 hg2) (by intro k hk; cases hk; exact hb4)⟩
  have hl2 : Hid (((st1.bind (markS 58)).getD []).length < f) := by
    show _ < _
    cases st1 with
    | none => exact hf0
    | some l1 =>
      cases hm : markS 58 l1 with
      | none => simp only [Option.bind_some, hm]; exact hf0
      | some l2 =>
        cases st with
        | none => have := K1.out.1; cases this
        | some l0 =>
          have h9 := quotS_len (show quotS l0 = some (key, l1) from K1.out.1)
          have := markS_len hm
          simp only [Option.bind_some, hm, Option.getD_some] at hlen ⊢
          simp only at h9
          omega
  clear h2 hg2
  go_wp2_with fail
  refine (IH.out _ b s _ (by exact K2.out.1) (by exact K2.out.2.2.2.2) hb4 hl2.out).mono ?_
  rintro e w3 ⟨x, st3, a5, a6, c5, c6, rfl, hx, hst3, h3, hg3⟩
  have K3 : Hid ((st1.bind (markS 58)).bind (valS f) = st3.map (fun l => (x, l)) ∧ RdSt w3 b s st3 ∧ w.grownBy w3 (some b) ∧ BoxIs w3 w.heap.size (.int .i64 t.kind) (.int .i64 t.n) (.string ⟨t.s.toArray⟩) (.slice a7 t.keys.length c7) (.slice a8 t.l.length c8) ∧ BoxIs w3 (w.heap.size + 1) (.int .i64 0) (.int .i64 0) (.string ⟨#[]⟩) (.slice none 0 0) (.slice none 0 0) ∧
      VIs w3 (fun k => B ≤ k ∧ k ≠ w.heap.size + 1) f x (.agg #[.int .i64 x.kind, .int .i64 x.n, .string ⟨x.s.toArray⟩, .slice a5 x.keys.length c5, .slice a6 x.l.length c6]) ∧ VIs w3 (fun k => B ≤ k ∧ k ≠ w.heap.size + 1) (f + 1) t (.agg #[.int .i64 t.kind, .int .i64 t.n, .string ⟨t.s.toArray⟩, .slice a7 t.keys.length c7, .slice a8 t.l.length c8])) :=
    ⟨hst3, h3, gb_trans K2.out.2.1 hg3, K2.out.2.2.1.grown hg3 (by simp; omega), K2.out.2.2.2.1.grown hg3 (by simp; omega), hx.weak (fun k hk => ⟨Nat.le_trans (Nat.le_trans hBw K2.out.2.1.size) hk, by have := K2.out.2.2.2.1.lt; omega⟩), (HV.out.below.weak (fun k hk => ⟨hk.1, by omega⟩)).grown (gb_trans K2.out.2.1 hg3) (fun k hk e => by cases e; omega)⟩
  have hsz3 : w.heap.size + 1 < w3.heap.size := K3.out.2.2.2.2.1.lt
  obtain ⟨p0, p1, p2, p3, p4, -⟩ := K3.out.2.2.2.1.c
  clear hst3 h3 hg3 hx
  have r0 : ∀ o, (w3.alloc o).cell? ⟨w.heap.size, 0, none⟩ = some (.int .i64 t.kind) := fun o => (K3.out.2.2.2.1.grown (World.grownBy_alloc w3 o none) (by simp)).c.1
  have r1 : ∀ o, (w3.alloc o).cell? ⟨w.heap.size, 1, none⟩ = some (.int .i64 t.n) := fun o => (K3.out.2.2.2.1.grown (World.grownBy_alloc w3 o none) (by simp)).c.2.1
  have r2 : ∀ o, (w3.alloc o).cell? ⟨w.heap.size, 2, none⟩ = some (.string ⟨t.s.toArray⟩) := fun o => (K3.out.2.2.2.1.grown (World.grownBy_alloc w3 o none) (by simp)).c.2.2.1
  have r3 : ∀ o, (w3.alloc o).cell? ⟨w.heap.size, 3, none⟩ = some (.slice a7 t.keys.length c7) := fun o => (K3.out.2.2.2.1.grown (World.grownBy_alloc w3 o none) (by simp)).c.2.2.2.1
  have r4 : ∀ o, (w3.alloc o).cell? ⟨w.heap.size, 4, none⟩ = some (.slice a8 t.l.length c8) := fun o => (K3.out.2.2.2.1.grown (World.grownBy_alloc w3 o none) (by simp)).c.2.2.2.2.1
  go_wp2_with fail
  refine (member_at _ (fun k => B ≤ k ∧ k ≠ w.heap.size + 1) (f + 1) t _ key (by exact K3.out.2.2.2.2.2.2.bel (bel_alloc _ _))).mono ?_
  rintro e w4 ⟨xm, bm, rfl, hb4', hmem⟩
  have B4 : Hid (Below w3.heap.size w3 w4) := bel_trans (bel_alloc _ _) hb4'
  have bxX : Hid (BoxIs w4 w3.heap.size (.int .i64 x.kind) (.int .i64 x.n) (.string ⟨x.s.toArray⟩) (.slice a5 x.keys.length c5) (.slice a6 x.l.length c6)) := box_bel hb4' (heap_alloc_new w3 _)
  have hsz4 : w3.heap.size < w4.heap.size := bxX.out.lt
  clear hb4' p0 p1 p2 p3 p4 r0 r1 r2 r3 r4
  have bxV : Hid (∀ o, BoxIs (w4.alloc o) w.heap.size (.int .i64 t.kind) (.int .i64 t.n) (.string ⟨t.s.toArray⟩) (.slice a7 t.keys.length c7) (.slice a8 t.l.length c8) ∧ BoxIs (w4.alloc o) w3.heap.size (.int .i64 x.kind) (.int .i64 x.n) (.string ⟨x.s.toArray⟩) (.slice a5 x.keys.length c5) (.slice a6 x.l.length c6) ∧ BoxIs (w4.alloc o) (w.heap.size + 1) (.int .i64 0) (.int .i64 0) (.string ⟨#[]⟩) (.slice none 0 0) (.slice none 0 0)) :=
    fun o => ⟨box_bel (bel_trans B4.out (bel_alloc w4 o)) K3.out.2.2.2.1, box_bel (bel_alloc w4 o) bxX.out, box_bel (bel_trans B4.out (bel_alloc w4 o)) K3.out.2.2.2.2.1⟩
  have s0 : ∀ o, (w4.alloc o).cell? ⟨w.heap.size, 0, none⟩ = some (.int .i64 t.kind) := fun o => (bxV.out o).1.c.1
  have s1 : ∀ o, (w4.alloc o).cell? ⟨w.heap.size, 1, none⟩ = some (.int .i64 t.n) := fun o => (bxV.out o).1.c.2.1
  have s2 : ∀ o, (w4.alloc o).cell? ⟨w.heap.size, 2, none⟩ = some (.string ⟨t.s.toArray⟩) := fun o => (bxV.out o).1.c.2.2.1
  have s3 : ∀ o, (w4.alloc o).cell? ⟨w.heap.size, 3, none⟩ = some (.slice a7 t.keys.length c7) := fun o => (bxV.out o).1.c.2.2.2.1
  have s4 : ∀ o, (w4.alloc o).cell? ⟨w.heap.size, 4, none⟩ = some (.slice a8 t.l.length c8) := fun o => (bxV.out o).1.c.2.2.2.2.1
  have v0 : ∀ o, (w4.alloc o).cell? ⟨w3.heap.size, 0, none⟩ = some (.int .i64 x.kind) := fun o => (bxV.out o).2.1.c.1
  have v1 : ∀ o, (w4.alloc o).cell? ⟨w3.heap.size, 1, none⟩ = some (.int .i64 x.n) := fun o => (bxV.out o).2.1.c.2.1
  have v2 : ∀ o, (w4.alloc o).cell? ⟨w3.heap.size, 2, none⟩ = some (.string ⟨x.s.toArray⟩) := fun o => (bxV.out o).2.1.c.2.2.1
  have v3 : ∀ o, (w4.alloc o).cell? ⟨w3.heap.size, 3, none⟩ = some (.slice a5 x.keys.length c5) := fun o => (bxV.out o).2.1.c.2.2.2.1
  have v4 : ∀ o, (w4.alloc o).cell? ⟨w3.heap.size, 4, none⟩ = some (.slice a6 x.l.length c6) := fun o => (bxV.out o).2.1.c.2.2.2.2.1
  have hws : Hid (st.bind (memS (valS f) t) = if (memV t key).isSome then none else st3.map (fun l => (withV t key x, l))) := memS_of K1.out.1 K3.out.1
  have hklm : key.length ≤ maxLen := by unfold maxLen; omega
  cases hmv : memV t key with
  | none =>
    rw [hmv] at hmem hws
    obtain ⟨rfl, rfl⟩ := hmem
    unfold leaf str
    go_wp2_with fail
    refine (HW.out _ (fun k => B ≤ k ∧ k ≠ w.heap.size + 1) f t x _ _ key (by exact K3.out.2.2.2.2.2.2.bel (bel_trans B4.out (bel_alloc _ _))) (by exact K3.out.2.2.2.2.2.1.bel (bel_trans B4.out (bel_alloc _ _))) HP.out (by omega) hklm).mono ?_
    rintro e w5 ⟨r, rfl, hr5, hb5⟩
    obtain ⟨e5, e6, d5, d6, rfl⟩ := hr5.form
    have G5 : Hid (VIs w5 (fun k => B ≤ k ∧ k ≠ w.heap.size + 1) (f + 1) (withV t key x) (.agg #[.int .i64 (withV t key x).kind, .int .i64 (withV t key x).n, .string ⟨(withV t key x).s.toArray⟩, .slice e5 (withV t key x).keys.length d5, .slice e6 (withV t key x).l.length d6]) ∧ w.grownBy w5 (some b) ∧ RdSt w5 b s st3 ∧ BoxIs w5 (w.heap.size + 1) (.int .i64 0) (.int .i64 0) (.string ⟨#[]⟩) (.slice none 0 0) (.slice none 0 0)) := by
      refine ⟨hr5.weak fun k hk => ?_, ?_, ?_, ?_⟩
      · rcases hk with hk | hk
        · exact hk
        · have := K3.out.2.2.1.size
          simp at hk
          exact ⟨by omega, by omega⟩
      · exact gb_own (gb_own (gb_own K3.out.2.2.1 (gb_below (r := none) B4.out) (by simp)) (World.grownBy_alloc w4 _ none) (by simp)) (gb_below (r := none) hb5) (by simp)
      · exact K3.out.2.1.of_heap (((gb_trans (gb_trans (gb_below (r := none) B4.out) (World.grownBy_alloc w4 _ none)) (gb_below hb5)).block b K3.out.2.1.lt (by simp)))
      · exact box_bel hb5 (bxV.out _).2.2
    clear hr5 hb5
    obtain ⟨x0, x1, x2, x3, x4, y0, y1, y2, y3, y4⟩ := G5.out.2.2.2.c
    obtain ⟨z0, z1, z2, z3, z4, -⟩ := (G5.out.2.2.2.set (.int .i64 (withV t key x).kind) (.int .i64 (withV t key x).n) (.string ⟨(withV t key x).s.toArray⟩) (.slice e5 (withV t key x).keys.length d5) (.slice e6 (withV t key x).l.length d6)).c
    have Z : Hid (_ ∧ _ ∧ _ ∧ _ ∧ _) := ⟨z0, z1, z2, z3, z4⟩
    clear z0 z1 z2 z3 z4
    go_wp2_with fail
    obtain ⟨z0, z1, z2, z3, z4⟩ := Z.out
    refine bodyPost_ret (v := (.agg #[.int .i64 (withV t key x).kind, .int .i64 (withV t key x).n, .string ⟨(withV t key x).s.toArray⟩, .slice e5 (withV t key x).keys.length d5, .slice e6 (withV t key x).l.length d6])) ?_ rfl ?_
    · simp only [set5] at z0 z1 z2 z3 z4
      simp [results, Tryz.results134, go_sem, z0, z1, z2, z3, z4]
    · obtain ⟨g1, g2, g3, g4⟩ := G5.out
      have g5 := set5_gb w5 (w.heap.size + 1) (.int .i64 (withV t key x).kind) (.int .i64 (withV t key x).n) (.string ⟨(withV t key x).s.toArray⟩) (.slice e5 (withV t key x).keys.length d5) (.slice e6 (withV t key x).l.length d6)
      have hwp := withV_paired (key := key) (x := x) HP.out
      refine ⟨withV t key x, st3, e5, e6, d5, d6, rfl, ?_, hwp.1, hwp.2, ?_, g3.of_heap (g5.block b g3.lt (by simp; omega)), gb_own g2 g5 (by intro k hk; cases hk; omega)⟩
      · exact (g1.grown g5 (fun k hk e => by simp at e; exact hk.2 e)).weak fun k hk => hk.1
      · rw [hws.out]; rfl
  | some y =>
    rw [hmv] at hmem hws
    obtain ⟨rfl, hy⟩ := hmem
    obtain ⟨i5, i6, j5, j6, rfl⟩ := hy.form
    clear hy
    go_wp2_with fail
    refine (fail_st _ b s st3 (by exact K3.out.2.1.of_heap (((gb_trans (gb_below (r := none) B4.out) (World.grownBy_alloc w4 _ none))).block b K3.out.2.1.lt (by simp)))).mono ?_
    rintro e w6 ⟨rfl, h6, hg6⟩
    have G6 : Hid (RdSt w6 b s none ∧ w.grownBy w6 (some b) ∧ VIs w6 (fun k => B ≤ k ∧ k ≠ w.heap.size + 1) (f + 1) t (.agg #[.int .i64 t.kind, .int .i64 t.n, .string ⟨t.s.toArray⟩, .slice a7 t.keys.length c7, .slice a8 t.l.length c8]) ∧ VIs w6 (fun k => B ≤ k ∧ k ≠ w.heap.size + 1) f x (.agg #[.int .i64 x.kind, .int .i64 x.n, .string ⟨x.s.toArray⟩, .slice a5 x.keys.length c5, .slice a6 x.l.length c6]) ∧ BoxIs w6 (w.heap.size + 1) (.int .i64 0) (.int .i64 0) (.string ⟨#[]⟩) (.slice none 0 0) (.slice none 0 0) ∧ w.heap.size ≤ w6.heap.size) := by
      have ga : w3.grownBy w6 (some b) := gb_trans (gb_trans (gb_below B4.out) (World.grownBy_alloc w4 _ _)) hg6
      exact ⟨h6, gb_trans K3.out.2.2.1 ga, K3.out.2.2.2.2.2.2.grown ga (fun k hk e => by cases e; omega), K3.out.2.2.2.2.2.1.grown ga (fun k hk e => by cases e; omega), K3.out.2.2.2.2.1.grown ga (by simp; omega), Nat.le_trans K3.out.2.2.1.size ga.size⟩
    have t0 := (bxV.out (.cells #[.int .i64 y.kind, .int .i64 y.n, .string ⟨y.s.toArray⟩, .slice i5 y.keys.length j5, .slice i6 y.l.length j6] 25))
    obtain ⟨s0', s1', s2', s3', s4', -⟩ := (t0.1.grown hg6 (by simp; omega)).c
    obtain ⟨v0', v1', v2', v3', v4', -⟩ := (t0.2.1.grown hg6 (by simp; have := K3.out.2.2.1.size; omega)).c
    have hsz6 := hg6.size
    clear h6 hg6 t0
    go_wp2_with fail
    refine (HW.out _ (fun k => B ≤ k ∧ k ≠ w.heap.size + 1) f t x _ _ key (by exact G6.out.2.2.1) (by exact G6.out.2.2.2.1) HP.out (by omega) hklm).mono ?_
    rintro e w5 ⟨r, rfl, hr5, hb5⟩
    obtain ⟨e5, e6, d5, d6, rfl⟩ := hr5.form
    have G5 : Hid (VIs w5 (fun k => B ≤ k ∧ k ≠ w.heap.size + 1) (f + 1) (withV t key x) (.agg #[.int .i64 (withV t key x).kind, .int .i64 (withV t key x).n, .string ⟨(withV t key x).s.toArray⟩, .slice e5 (withV t key x).keys.length d5, .slice e6 (withV t key x).l.length d6]) ∧ w.grownBy w5 (some b) ∧ RdSt w5 b s (none : Option (List UInt8)) ∧ BoxIs w5 (w.heap.size + 1) (.int .i64 0) (.int .i64 0) (.string ⟨#[]⟩) (.slice none 0 0) (.slice none 0 0)) := by
      refine ⟨hr5.weak fun k hk => ?_, ?_, ?_, ?_⟩
      · rcases hk with hk | hk
        · exact hk
        · have := G6.out.2.2.2.2.2
          exact ⟨by omega, by have := G6.out.2.2.2.2.1.lt; omega⟩
      · exact gb_own (gb_trans G6.out.2.1 (gb_refl _ _)) (gb_below (r := none) hb5) (by simp)
      · exact G6.out.1.of_heap ((gb_below (r := none) hb5).block b G6.out.1.lt (by simp))
      · exact box_bel hb5 G6.out.2.2.2.2.1
    clear hr5 hb5
    obtain ⟨x0, x1, x2, x3, x4, y0, y1, y2, y3, y4⟩ := G5.out.2.2.2.c
    obtain ⟨z0, z1, z2, z3, z4, -⟩ := (G5.out.2.2.2.set (.int .i64 (withV t key x).kind) (.int .i64 (withV t key x).n) (.string ⟨(withV t key x).s.toArray⟩) (.slice e5 (withV t key x).keys.length d5) (.slice e6 (withV t key x).l.length d6)).c
    have Z : Hid (_ ∧ _ ∧ _ ∧ _ ∧ _) := ⟨z0, z1, z2, z3, z4⟩
    clear z0 z1 z2 z3 z4
    go_wp2_with fail
    obtain ⟨z0, z1, z2, z3, z4⟩ := Z.out
    refine bodyPost_ret (v := (.agg #[.int .i64 (withV t key x).kind, .int .i64 (withV t key x).n, .string ⟨(withV t key x).s.toArray⟩, .slice e5 (withV t key x).keys.length d5, .slice e6 (withV t key x).l.length d6])) ?_ rfl ?_
    · simp only [set5] at z0 z1 z2 z3 z4
      simp [results, Tryz.results134, go_sem, z0, z1, z2, z3, z4]
    · obtain ⟨g1, g2, g3, g4⟩ := G5.out
      have g5 := set5_gb w5 (w.heap.size + 1) (.int .i64 (withV t key x).kind) (.int .i64 (withV t key x).n) (.string ⟨(withV t key x).s.toArray⟩) (.slice e5 (withV t key x).keys.length d5) (.slice e6 (withV t key x).l.length d6)
      have hwp := withV_paired (key := key) (x := x) HP.out
      refine ⟨withV t key x, (none : Option (List UInt8)), e5, e6, d5, d6, rfl, ?_, hwp.1, hwp.2, ?_, g3.of_heap (g5.block b g3.lt (by simp; omega)), gb_own g2 g5 (by intro k hk; cases hk; omega)⟩
      · exact (g1.grown g5 (fun k hk e => by simp at e; exact hk.2 e)).weak fun k hk => hk.1
      · rw [hws.out]; rfl
end Go.Proofs.YtmdemcjmcnfjmaaGreatDoor

/- What other of package merge does. -/
import Derived.Test.YtfbddgpekbhpfacGreatDoorMe
import Derived.Test.YtfbddgpekbhpfacGreatDoorSm
import Derived.Deep.DrawnRows
set_option linter.unusedSimpArgs false
set_option linter.unusedVariables false
namespace Go.Proofs.YtfbddgpekbhpfacGreatDoor
open Go.RowKit
attribute [local go_sem ↓] Go.wp_at_zero Go.wp_at_succ

def okE (ok : Nat → Prop) (B C g : Nat) : Nat → Prop := fun k => (ok k ∧ k < B) ∨ (C ≤ k ∧ k ≠ g)
theorem okE_low {ok : Nat → Prop} {B C g : Nat} : ∀ k, (ok k ∧ k < B) → okE ok B C g k := fun _ h => .inl h
theorem okE_up {ok : Nat → Prop} {B C g H : Nat} (h1 : C ≤ H) (h2 : g < H) : ∀ k, okN (okE ok B C g) H k → okE ok B C g k := by
  intro k hk
  rcases hk with hk | hk
  · exact hk
  · exact .inr ⟨by omega, by omega⟩
theorem okE_out {ok : Nat → Prop} {B C g : Nat} (h : B ≤ C) : ∀ k, okE ok B C g k → okN ok B k := by
  intro k hk
  rcases hk with hk | hk
  · exact .inl hk.1
  · exact .inr (by omega)
theorem okE_ne {ok : Nat → Prop} {B C g : Nat} (h : B ≤ g) : ∀ k, okE ok B C g k → k ≠ g := by
  intro k hk
  rcases hk with hk | hk <;> omega
theorem okE_ne2 {ok : Nat → Prop} {B C g x : Nat} (h1 : B ≤ x) (h2 : x < C) : ∀ k, okE ok B C g k → k ≠ x := by
  intro k hk
  rcases hk with hk | hk <;> omega
theorem foldD_len {f : V → V → V} {a : V} : ∀ (ps : List (List UInt8 × V)) (v : V), (ps.foldl (stepD f a) v).l.length ≤ v.l.length + ps.length
  | [], v => by simp
  | p :: ps, v => by
    have h1 := foldD_len (f := f) (a := a) ps (stepD f a v p)
    have h2 : (stepD f a v p).l.length ≤ v.l.length + 1 := by
      unfold stepD
      split
      · exact with_items _ _ _
      · split
        · omega
        · exact with_items _ _ _
    rw [List.foldl_cons, List.length_cons]; omega
theorem diff_at {E : Nat} {a b : V} {k : Nat} (ha : Nice a) (hb : Nice b) : Ob (((b.keys.zip b.l).take k).foldl (stepD (diffF E) a) (goneV a b)) ∧ (((b.keys.zip b.l).take k).foldl (stepD (diffF E) a) (goneV a b)).l.length ≤ 240 := by
  refine ⟨fold_ob (stepD_ob _ _) _ _ (gone_ob a b), ?_⟩
  have h1 := foldD_len (f := diffF E) (a := a) ((b.keys.zip b.l).take k) (goneV a b)
  have h2 : (goneV a b).l.length ≤ 120 := by
    have h5 := (gone_at (a := a) (b := b) (k := (a.keys.zip a.l).length) ha).2
    rw [List.take_of_length_le (Nat.le_refl _)] at h5
    exact h5
  have h3 := nice_len hb
  have h4 : ((b.keys.zip b.l).take k).length ≤ b.l.length := by rw [List.length_take, List.length_zip]; omega
  omega
def OtC (E : Nat) : Prop := ∀ (w : World) (ok : Nat → Prop) (a b : V) (va vb : Value), In w ok a va → In w ok b vb → Nice a → Nice b → Dep E b →
  Calls Tryz.prog 17 #[va, vb] w fun e w' => ∃ r, e = .returned r ∧ Below w.heap.size w w' ∧ In w' (okN ok w.heap.size) (diffF E a b) r
def OtI (w : World) (ok : Nat → Prop) (E : Nat) (a b : V) (a1 a2 a3 a4 : Option Addr) (c1 c2 c3 c4 gd k : Nat) (wr : World) : Prop :=
  ∃ (y : V) (a5 a6 : Option Addr) (c5 c6 : Nat), y = ((b.keys.zip b.l).take k).foldl (stepD (diffF E) a) (goneV a b) ∧ (BoxIs wr w.heap.size (.int .i64 a.kind) (.int .i64 a.n) (.string ⟨a.s.toArray⟩) (.slice a1 a.keys.length c1) (.slice a2 a.l.length c2) ∧ BoxIs wr (w.heap.size + 1) (.int .i64 b.kind) (.int .i64 b.n) (.string ⟨b.s.toArray⟩) (.slice a3 b.keys.length c3) (.slice a4 b.l.length c4) ∧ BoxIs wr (w.heap.size + 2) (.int .i64 0) (.int .i64 0) (.string ⟨#[]⟩) (.slice none 0 0) (.slice none 0 0) ∧ BoxIs wr gd (.int .i64 y.kind) (.int .i64 y.n) (.string ⟨y.s.toArray⟩) (.slice a5 y.keys.length c5) (.slice a6 y.l.length c6)) ∧ Below w.heap.size w wr ∧ In wr (okE ok w.heap.size (w.heap.size + 3) gd) y (.agg #[.int .i64 y.kind, .int .i64 y.n, .string ⟨y.s.toArray⟩, .slice a5 y.keys.length c5, .slice a6 y.l.length c6])

set_option maxRecDepth 100000 in
set_option maxHeartbeats 40000000 in
theorem other_succ (E : Nat) (ih : OtC E) : OtC (E + 1) := by
  intro w ok a b va vb h hb na nb hd
  have H := hidI h.low
  have HB := hidI hb.low
  have NA := hidI na
  have NB := hidI nb
  have HD := hidI hd
  have IH := hidI ih
  obtain ⟨l1, l2, l3⟩ := h.lens
  obtain ⟨l4, l5, l6⟩ := hb.lens
  obtain ⟨a1, a2, c1, c2, rfl⟩ := h.form
  obtain ⟨a3, a4, c3, c4, rfl⟩ := hb.form
  clear h hb ih na nb hd
  have B3 : Hid (∀ o1 o2 o3, Below w.heap.size w (((w.alloc o1).alloc o2).alloc o3)) := fun o1 o2 o3 => bel_trans (bel_trans (bel_alloc _ _) (bel_alloc _ _)) (bel_alloc _ _)
  by_cases hab : a.kind = 5 ∧ b.kind = 5
  · obtain ⟨hka, hkb⟩ := hab
    have e0 : (a.kind != 5) = false := by rw [hka]; rfl
    have e1 : (b.kind != 5) = false := by rw [hkb]; rfl
    have OA : Hid (Ob a) := hidI (nice_ob NA.out hka)
    have OB : Hid (Ob b) := hidI (nice_ob NB.out hkb)
    have HM : Hid (diffF (E + 1) a b = (b.keys.zip b.l).foldl (stepD (diffF E) a) (goneV a b)) := hidI (by rw [diffF, if_pos ⟨hka, hkb⟩])
    have HKL : Hid (b.keys.length = b.l.length) := hidI OB.out.2.2.2.1
    clear hka hkb
    go_enter Tryz.func17, Tryz.ntmps17
    go_wp2_with fail
    refine (gone_is _ (fun j => ok j ∧ j < w.heap.size) a b _ _ (by exact H.out.bel (B3.out _ _ _)) (by exact HB.out.bel (B3.out _ _ _)) NA.out OA.out).mono ?_
    rintro e w1 ⟨r, rfl, hb1, hr⟩
    obtain ⟨y, hy⟩ : ∃ y, goneV a b = y := ⟨_, rfl⟩
    rw [hy] at hr
    obtain ⟨a5, a6, c5, c6, rfl⟩ := hr.form
    obtain ⟨gd, hgd⟩ : ∃ gd, w1.heap.size = gd := ⟨_, rfl⟩
    have hbb := bel_trans (B3.out (.cells #[.int .i64 a.kind, .int .i64 a.n, .string ⟨a.s.toArray⟩, .slice a1 a.keys.length c1, .slice a2 a.l.length c2] 25) (.cells #[.int .i64 b.kind, .int .i64 b.n, .string ⟨b.s.toArray⟩, .slice a3 b.keys.length c3, .slice a4 b.l.length c4] 25) (.cells #[.int .i64 0, .int .i64 0, .string ⟨#[]⟩, .slice none 0 0, .slice none 0 0] 25)) (bel_trans hb1 (bel_alloc w1 (.cells #[.int .i64 y.kind, .int .i64 y.n, .string ⟨y.s.toArray⟩, .slice a5 y.keys.length c5, .slice a6 y.l.length c6] 25)))
    have hgl : w.heap.size + 3 ≤ gd := by
      have := hb1.size
      simp at this
      omega
    have I0 : Hid (OtI w ok E a b a1 a2 a3 a4 c1 c2 c3 c4 gd 0 (w1.alloc (.cells #[.int .i64 y.kind, .int .i64 y.n, .string ⟨y.s.toArray⟩, .slice a5 y.keys.length c5, .slice a6 y.l.length c6] 25))) := by
      have hbc := bel_trans hb1 (bel_alloc w1 (.cells #[.int .i64 y.kind, .int .i64 y.n, .string ⟨y.s.toArray⟩, .slice a5 y.keys.length c5, .slice a6 y.l.length c6] 25))
      refine hidI ⟨y, a5, a6, c5, c6, hy.symm, ⟨box_bel hbc (h3a w _ _ _), box_bel hbc (h3b w _ _ _), box_bel hbc (h3c w _ _ _), by rw [← hgd]; exact heap_alloc_new w1 _⟩, hbb, ((hr.low.bel (bel_alloc w1 _)).weak ?_)⟩
      rintro j ⟨hj, hj2⟩
      rcases hj with hj | hj
      · exact .inl hj
      · refine .inr ⟨?_, by omega⟩
        have : (((w.alloc (.cells #[.int .i64 a.kind, .int .i64 a.n, .string ⟨a.s.toArray⟩, .slice a1 a.keys.length c1, .slice a2 a.l.length c2] 25)).alloc (.cells #[.int .i64 b.kind, .int .i64 b.n, .string ⟨b.s.toArray⟩, .slice a3 b.keys.length c3, .slice a4 b.l.length c4] 25)).alloc (.cells #[.int .i64 0, .int .i64 0, .string ⟨#[]⟩, .slice none 0 0, .slice none 0 0] 25)).heap.size = w.heap.size + 3 := by simp
        omega
    have HGD := hidI hgd
    have p3 := (box_bel (bel_trans hb1 (bel_alloc w1 (.cells #[.int .i64 y.kind, .int .i64 y.n, .string ⟨y.s.toArray⟩, .slice a5 y.keys.length c5, .slice a6 y.l.length c6] 25))) (h3b w _ _ _)).c.2.2.2.1
    clear hy hr hb1 hbb
    go_wp2_with fail
    clear hgd
    go_loopg [25] b.keys.length (fun gk i wr => ∃ k : Nat, k ≤ b.keys.length ∧ gk = b.keys.length - k ∧ i = .int .i64 k ∧ OtI w ok E a b a1 a2 a3 a4 c1 c2 c3 c4 gd k wr)
    case atStart => exact ⟨0, Nat.zero_le _, rfl, rfl, by first | exact I0.out | (rw [HGD.out] at I0; exact I0.out)⟩
    case round =>
      obtain ⟨k, hk, hgk, rfl, y, a5, a6, c5, c6, i0, i1, i5, i6⟩ := hrel
      have GK := hidI hgk
      have I : Hid (y = ((b.keys.zip b.l).take k).foldl (stepD (diffF E) a) (goneV a b) ∧ (BoxIs wr w.heap.size (.int .i64 a.kind) (.int .i64 a.n) (.string ⟨a.s.toArray⟩) (.slice a1 a.keys.length c1) (.slice a2 a.l.length c2) ∧ BoxIs wr (w.heap.size + 1) (.int .i64 b.kind) (.int .i64 b.n) (.string ⟨b.s.toArray⟩) (.slice a3 b.keys.length c3) (.slice a4 b.l.length c4) ∧ BoxIs wr (w.heap.size + 2) (.int .i64 0) (.int .i64 0) (.string ⟨#[]⟩) (.slice none 0 0) (.slice none 0 0) ∧ BoxIs wr gd (.int .i64 y.kind) (.int .i64 y.n) (.string ⟨y.s.toArray⟩) (.slice a5 y.keys.length c5) (.slice a6 y.l.length c6)) ∧ Below w.heap.size w wr ∧ In wr (okE ok w.heap.size (w.heap.size + 3) gd) y (.agg #[.int .i64 y.kind, .int .i64 y.n, .string ⟨y.s.toArray⟩, .slice a5 y.keys.length c5, .slice a6 y.l.length c6])) := hidI ⟨i0, i1, i5, i6⟩
      have hwsz := i1.2.2.2.lt
      obtain ⟨p0, p1, p2, p3, p4, -⟩ := i1.1.c
      clear hgk i0 i1 i5 i6
      by_cases hlt : k < b.keys.length
      · have hlt' : k < b.l.length := by have := HKL.out; omega
        obtain ⟨kb, ko, rfl, j1, j2, jk, jl⟩ := HB.out.key hlt
        obtain ⟨xb, xo, b5, d5, b6, d6, rfl, j3, j4, g0, g1, g2, g3, g4, g5⟩ := HB.out.item hlt'
        replace jk := cell_bel I.out.2.2.1 jk
        have w1 : (0 : Int) ≤ (k : Int) := by omega
        have w2 : (k : Int) < (b.l.length : Int) := by omega
        have w3 : (k : Int) < (b.keys.length : Int) := by omega
        have DA : Hid (Ob y ∧ y.l.length ≤ 240) := hidI (by rw [I.out.1]; exact diff_at NA.out NB.out)
        have ST : Hid (∀ u, u = stepD (diffF E) a y (b.keys[k], b.l[k]) → u = ((b.keys.zip b.l).take (k + 1)).foldl (stepD (diffF E) a) (goneV a b)) := hidI (by rintro u rfl; rw [zip_step hlt hlt', ← I.out.1])
        go_wp2_with fail
        refine (member_was _ (okE ok w.heap.size (w.heap.size + 3) gd) a _ b.keys[k] (by exact (H.out.bel I.out.2.2.1).weak okE_low)).mono ?_
        rintro e w4 ⟨r, rfl, hb4, hr⟩
        obtain ⟨q, hq⟩ : ∃ q, (memV a b.keys[k]).getD zeroT = q := ⟨_, rfl⟩
        rw [hq] at hr
        have NQ : Hid (Nice q) := hidI (by
          rw [← hq]
          cases hm : memV a b.keys[k] with
          | none => exact nice_zero
          | some x => exact nice_mem NA.out (mem_in hm))
        have HQ := hidI hq
        obtain ⟨a7, a8, c7, c8, rfl⟩ := hr.form
        have hbb := bel_trans hb4 (bel_alloc w4 (.cells #[.int .i64 q.kind, .int .i64 q.n, .string ⟨q.s.toArray⟩, .slice a7 q.keys.length c7, .slice a8 q.l.length c8] 25))
        have hbw := bel_trans I.out.2.2.1 hbb
        have K : Hid ((BoxIs (w4.alloc (.cells #[.int .i64 q.kind, .int .i64 q.n, .string ⟨q.s.toArray⟩, .slice a7 q.keys.length c7, .slice a8 q.l.length c8] 25)) w.heap.size (.int .i64 a.kind) (.int .i64 a.n) (.string ⟨a.s.toArray⟩) (.slice a1 a.keys.length c1) (.slice a2 a.l.length c2) ∧ BoxIs (w4.alloc (.cells #[.int .i64 q.kind, .int .i64 q.n, .string ⟨q.s.toArray⟩, .slice a7 q.keys.length c7, .slice a8 q.l.length c8] 25)) (w.heap.size + 1) (.int .i64 b.kind) (.int .i64 b.n) (.string ⟨b.s.toArray⟩) (.slice (some ⟨kb, ko, none⟩) b.keys.length c3) (.slice (some ⟨xb, xo, none⟩) b.l.length c4) ∧ BoxIs (w4.alloc (.cells #[.int .i64 q.kind, .int .i64 q.n, .string ⟨q.s.toArray⟩, .slice a7 q.keys.length c7, .slice a8 q.l.length c8] 25)) (w.heap.size + 2) (.int .i64 0) (.int .i64 0) (.string ⟨#[]⟩) (.slice none 0 0) (.slice none 0 0) ∧ BoxIs (w4.alloc (.cells #[.int .i64 q.kind, .int .i64 q.n, .string ⟨q.s.toArray⟩, .slice a7 q.keys.length c7, .slice a8 q.l.length c8] 25)) gd (.int .i64 y.kind) (.int .i64 y.n) (.string ⟨y.s.toArray⟩) (.slice a5 y.keys.length c5) (.slice a6 y.l.length c6)) ∧ BoxIs (w4.alloc (.cells #[.int .i64 q.kind, .int .i64 q.n, .string ⟨q.s.toArray⟩, .slice a7 q.keys.length c7, .slice a8 q.l.length c8] 25)) w4.heap.size (.int .i64 q.kind) (.int .i64 q.n) (.string ⟨q.s.toArray⟩) (.slice a7 q.keys.length c7) (.slice a8 q.l.length c8) ∧ Below w.heap.size w (w4.alloc (.cells #[.int .i64 q.kind, .int .i64 q.n, .string ⟨q.s.toArray⟩, .slice a7 q.keys.length c7, .slice a8 q.l.length c8] 25)) ∧ In (w4.alloc (.cells #[.int .i64 q.kind, .int .i64 q.n, .string ⟨q.s.toArray⟩, .slice a7 q.keys.length c7, .slice a8 q.l.length c8] 25)) (okE ok w.heap.size (w.heap.size + 3) gd) y (.agg #[.int .i64 y.kind, .int .i64 y.n, .string ⟨y.s.toArray⟩, .slice a5 y.keys.length c5, .slice a6 y.l.length c6]) ∧ In (w4.alloc (.cells #[.int .i64 q.kind, .int .i64 q.n, .string ⟨q.s.toArray⟩, .slice a7 q.keys.length c7, .slice a8 q.l.length c8] 25)) (okE ok w.heap.size (w.heap.size + 3) gd) q (.agg #[.int .i64 q.kind, .int .i64 q.n, .string ⟨q.s.toArray⟩, .slice a7 q.keys.length c7, .slice a8 q.l.length c8]) ∧ In (w4.alloc (.cells #[.int .i64 q.kind, .int .i64 q.n, .string ⟨q.s.toArray⟩, .slice a7 q.keys.length c7, .slice a8 q.l.length c8] 25)) (okE ok w.heap.size (w.heap.size + 3) gd) b.l[k] (.agg #[.int .i64 b.l[k].kind, .int .i64 b.l[k].n, .string ⟨b.l[k].s.toArray⟩, .slice b5 b.l[k].keys.length d5, .slice b6 b.l[k].l.length d6]) ∧ gd < (w4.alloc (.cells #[.int .i64 q.kind, .int .i64 q.n, .string ⟨q.s.toArray⟩, .slice a7 q.keys.length c7, .slice a8 q.l.length c8] 25)).heap.size) := hidI ⟨⟨box_bel hbb I.out.2.1.1, box_bel hbb I.out.2.1.2.1, box_bel hbb I.out.2.1.2.2.1, box_bel hbb I.out.2.1.2.2.2⟩, heap_alloc_new w4 _, hbw, I.out.2.2.2.bel hbb, hr.bel (bel_alloc _ _), (g5.bel hbw).weak okE_low, Nat.lt_of_lt_of_le hwsz hbb.size⟩
        replace g0 := cell_bel hbw g0
        replace g1 := cell_bel hbw g1
        replace g2 := cell_bel hbw g2
        replace g3 := cell_bel hbw g3
        replace g4 := cell_bel hbw g4
        have conW : Hid (∀ (w5 : World) (z : V) (b7 b8 : Option Addr) (d7 d8 : Nat), Below (w4.alloc (.cells #[.int .i64 q.kind, .int .i64 q.n, .string ⟨q.s.toArray⟩, .slice a7 q.keys.length c7, .slice a8 q.l.length c8] 25)).heap.size (w4.alloc (.cells #[.int .i64 q.kind, .int .i64 q.n, .string ⟨q.s.toArray⟩, .slice a7 q.keys.length c7, .slice a8 q.l.length c8] 25)) w5 → In w5 (okE ok w.heap.size (w.heap.size + 3) gd) z (.agg #[.int .i64 z.kind, .int .i64 z.n, .string ⟨z.s.toArray⟩, .slice b7 z.keys.length d7, .slice b8 z.l.length d8]) → ∀ W, W.heap = w5.heap → W.os = w5.os → W.tape = w5.tape → W.output = w5.output → Calls Tryz.prog 24 #[.agg #[.int .i64 y.kind, .int .i64 y.n, .string ⟨y.s.toArray⟩, .slice a5 y.keys.length c5, .slice a6 y.l.length c6], .string ⟨b.keys[k].toArray⟩, .agg #[.int .i64 z.kind, .int .i64 z.n, .string ⟨z.s.toArray⟩, .slice b7 z.keys.length d7, .slice b8 z.l.length d8]] W fun e w6 => ∃ (u : V) (e5 e6 : Option Addr) (f5 f6 : Nat), e = .returned (.agg #[.int .i64 u.kind, .int .i64 u.n, .string ⟨u.s.toArray⟩, .slice e5 u.keys.length f5, .slice e6 u.l.length f6]) ∧ u = withV y b.keys[k] z ∧ Below w5.heap.size w5 w6 ∧ In w6 (okE ok w.heap.size (w.heap.size + 3) gd) u (.agg #[.int .i64 u.kind, .int .i64 u.n, .string ⟨u.s.toArray⟩, .slice e5 u.keys.length f5, .slice e6 u.l.length f6])) := by
          intro w5 z b7 b8 d7 d8 hb5 hz W e1 e2 e3 e4
          have hbW : Below w5.heap.size w5 W := be0 e1 e2 e3 e4
          refine (with_is W (okE ok w.heap.size (w.heap.size + 3) gd) y z _ _ b.keys[k] ((K.out.2.2.2.1.bel hb5).bel hbW) (hz.bel hbW) DA.out.1.paired (by have := DA.out.2; omega) jl).mono ?_
          rintro e w6 ⟨r, rfl, hr, hb⟩
          obtain ⟨e5, e6, f5, f6, rfl⟩ := hr.form
          have s1 := hb5.size
          have s2 := hbW.size
          have s3 := K.out.2.2.2.2.2.2
          exact ⟨_, e5, e6, f5, f6, rfl, rfl, bel_trans hbW hb, hr.weak (okE_up (by omega) (by omega))⟩
        have FIN : Hid (∀ (w6 : World) (u : V) (e5 e6 : Option Addr) (f5 f6 : Nat), Below (w4.alloc (.cells #[.int .i64 q.kind, .int .i64 q.n, .string ⟨q.s.toArray⟩, .slice a7 q.keys.length c7, .slice a8 q.l.length c8] 25)).heap.size (w4.alloc (.cells #[.int .i64 q.kind, .int .i64 q.n, .string ⟨q.s.toArray⟩, .slice a7 q.keys.length c7, .slice a8 q.l.length c8] 25)) w6 → u = stepD (diffF E) a y (b.keys[k], b.l[k]) → In w6 (okE ok w.heap.size (w.heap.size + 3) gd) u (.agg #[.int .i64 u.kind, .int .i64 u.n, .string ⟨u.s.toArray⟩, .slice e5 u.keys.length f5, .slice e6 u.l.length f6]) → OtI w ok E a b a1 a2 (some ⟨kb, ko, none⟩) (some ⟨xb, xo, none⟩) c1 c2 c3 c4 gd (k + 1) (set5 w6 gd (.int .i64 u.kind) (.int .i64 u.n) (.string ⟨u.s.toArray⟩) (.slice e5 u.keys.length f5) (.slice e6 u.l.length f6))) := by
          intro w6 u e5 e6 f5 f6 hb6 hu hr
          have gs := set5_gb w6 gd (.int .i64 u.kind) (.int .i64 u.n) (.string ⟨u.s.toArray⟩) (.slice e5 u.keys.length f5) (.slice e6 u.l.length f6)
          refine ⟨u, e5, e6, f5, f6, ST.out u hu, ⟨(box_bel hb6 K.out.1.1).grown gs (by simp; omega), (box_bel hb6 K.out.1.2.1).grown gs (by simp; omega), (box_bel hb6 K.out.1.2.2.1).grown gs (by simp; omega), (box_bel hb6 K.out.1.2.2.2).set _ _ _ _ _⟩, bel_set5 (bel_trans K.out.2.2.1 hb6) (by omega) _ _ _ _ _, hr.grown gs (okE_ne (by omega))⟩
        clear hq hr hb4 hbb hbw p0 p1 p2 p3 p4 jk g5
        obtain ⟨y0, y1, y2, y3, y4, -⟩ := K.out.1.2.2.2.c
        have p4 := K.out.1.2.1.c.2.2.2.2.1
        cases hm : memV a b.keys[k] with
        | none =>
          have HS : Hid (∀ z, z = b.l[k] → withV y b.keys[k] z = stepD (diffF E) a y (b.keys[k], b.l[k])) := hidI (by rintro z rfl; unfold stepD; simp only [hm])
          clear hm
          rw [show (none : Option V).isSome = false from rfl]
          go_wp2_with fail
          go_region_with ((go_at_call 24; refine (conW.out _ _ _ _ _ _ (Below.refl _ _) K.out.2.2.2.2.2.1 _ (by rfl) (by rfl) (by rfl) (by rfl)).mono ?_; rintro e w6 ⟨u, e5, e6, f5, f6, rfl, hu1, hu2, hu3⟩; have U := hidI (FIN.out _ _ _ _ _ _ hu2 (hu1.trans (HS.out _ rfl)) hu3); obtain ⟨t0, t1, t2, t3, t4, t5, t6, t7, t8, t9⟩ := (box_bel hu2 K.out.1.2.2.2).c; clear hu1 hu2 hu3))
          all_goals
            go_wp2_with fail
            go_roundg (b.keys.length - (k + 1))
            case measure => rw [GK.out]; omega
            case rel => exact ⟨k + 1, hlt, rfl, by go_num, U.out⟩
        | some q' =>
          have hqq : q = q' := by have := HQ.out; rw [hm] at this; exact this.symm
          subst hqq
          have HM2 := hidI hm
          clear hm
          rw [show (some q).isSome = true from rfl]
          have bk := K.out.1.2.1.c.2.2.2.2.1
          obtain ⟨q0, q1, q2, q3, q4, -⟩ := K.out.2.1.c
          by_cases hsm : q = b.l[k]
          · have FIN0 : Hid (∀ w5, Below (w4.alloc (.cells #[.int .i64 q.kind, .int .i64 q.n, .string ⟨q.s.toArray⟩, .slice a7 q.keys.length c7, .slice a8 q.l.length c8] 25)).heap.size (w4.alloc (.cells #[.int .i64 q.kind, .int .i64 q.n, .string ⟨q.s.toArray⟩, .slice a7 q.keys.length c7, .slice a8 q.l.length c8] 25)) w5 → OtI w ok E a b a1 a2 (some ⟨kb, ko, none⟩) (some ⟨xb, xo, none⟩) c1 c2 c3 c4 gd (k + 1) w5) := hidI (fun w5 hb5 => ⟨y, a5, a6, c5, c6, ST.out y (by unfold stepD; simp only [HM2.out, if_pos hsm]), ⟨box_bel hb5 K.out.1.1, box_bel hb5 K.out.1.2.1, box_bel hb5 K.out.1.2.2.1, box_bel hb5 K.out.1.2.2.2⟩, bel_trans K.out.2.2.1 hb5, K.out.2.2.2.1.bel hb5⟩)
            have conS : Hid (∀ W, W.heap = (w4.alloc (.cells #[.int .i64 q.kind, .int .i64 q.n, .string ⟨q.s.toArray⟩, .slice a7 q.keys.length c7, .slice a8 q.l.length c8] 25)).heap → W.os = w4.os → W.tape = w4.tape → W.output = w4.output → Calls Tryz.prog 30 #[.agg #[.int .i64 q.kind, .int .i64 q.n, .string ⟨q.s.toArray⟩, .slice a7 q.keys.length c7, .slice a8 q.l.length c8], .agg #[.int .i64 b.l[k].kind, .int .i64 b.l[k].n, .string ⟨b.l[k].s.toArray⟩, .slice b5 b.l[k].keys.length d5, .slice b6 b.l[k].l.length d6]] W fun e w5 => e = .returned (.bool true) ∧ Below (w4.alloc (.cells #[.int .i64 q.kind, .int .i64 q.n, .string ⟨q.s.toArray⟩, .slice a7 q.keys.length c7, .slice a8 q.l.length c8] 25)).heap.size (w4.alloc (.cells #[.int .i64 q.kind, .int .i64 q.n, .string ⟨q.s.toArray⟩, .slice a7 q.keys.length c7, .slice a8 q.l.length c8] 25)) w5) := by
              intro W e1 e2 e3 e4
              have hbW : Below (w4.alloc (.cells #[.int .i64 q.kind, .int .i64 q.n, .string ⟨q.s.toArray⟩, .slice a7 q.keys.length c7, .slice a8 q.l.length c8] 25)).heap.size (w4.alloc (.cells #[.int .i64 q.kind, .int .i64 q.n, .string ⟨q.s.toArray⟩, .slice a7 q.keys.length c7, .slice a8 q.l.length c8] 25)) W := be0 e1 e2 e3 e4
              refine (same_run W (okE ok w.heap.size (w.heap.size + 3) gd) (okE ok w.heap.size (w.heap.size + 3) gd) q b.l[k] _ _ (K.out.2.2.2.2.1.bel hbW) (K.out.2.2.2.2.2.1.bel hbW) (by have := nice_cnt NQ.out; omega)).mono ?_
              rintro e w5 ⟨r, rfl, hr, hb⟩
              exact ⟨by rw [hr.2 hsm], bel_trans hbW hb⟩
            have HSM := hidI hsm
            clear hsm
            go_wp2_with fail
            go_region_with ((go_at_call 30; refine (conS.out _ (by rfl) (by rfl) (by rfl) (by rfl)).mono ?_; rintro e w5 ⟨rfl, hb5⟩; have U := hidI (FIN0.out _ hb5); clear hb5))
            all_goals
              go_wp2_with fail
              go_roundg (b.keys.length - (k + 1))
              case measure => rw [GK.out]; omega
              case rel => exact ⟨k + 1, hlt, rfl, by go_num, U.out⟩
          · have HS : Hid (withV y b.keys[k] (diffF E q b.l[k]) = stepD (diffF E) a y (b.keys[k], b.l[k])) := hidI (by unfold stepD; simp only [HM2.out, if_neg hsm])
            have conS : Hid (∀ W, W.heap = (w4.alloc (.cells #[.int .i64 q.kind, .int .i64 q.n, .string ⟨q.s.toArray⟩, .slice a7 q.keys.length c7, .slice a8 q.l.length c8] 25)).heap → W.os = w4.os → W.tape = w4.tape → W.output = w4.output → Calls Tryz.prog 30 #[.agg #[.int .i64 q.kind, .int .i64 q.n, .string ⟨q.s.toArray⟩, .slice a7 q.keys.length c7, .slice a8 q.l.length c8], .agg #[.int .i64 b.l[k].kind, .int .i64 b.l[k].n, .string ⟨b.l[k].s.toArray⟩, .slice b5 b.l[k].keys.length d5, .slice b6 b.l[k].l.length d6]] W fun e w5 => e = .returned (.bool false) ∧ Below (w4.alloc (.cells #[.int .i64 q.kind, .int .i64 q.n, .string ⟨q.s.toArray⟩, .slice a7 q.keys.length c7, .slice a8 q.l.length c8] 25)).heap.size (w4.alloc (.cells #[.int .i64 q.kind, .int .i64 q.n, .string ⟨q.s.toArray⟩, .slice a7 q.keys.length c7, .slice a8 q.l.length c8] 25)) w5) := by
              intro W e1 e2 e3 e4
              have hbW : Below (w4.alloc (.cells #[.int .i64 q.kind, .int .i64 q.n, .string ⟨q.s.toArray⟩, .slice a7 q.keys.length c7, .slice a8 q.l.length c8] 25)).heap.size (w4.alloc (.cells #[.int .i64 q.kind, .int .i64 q.n, .string ⟨q.s.toArray⟩, .slice a7 q.keys.length c7, .slice a8 q.l.length c8] 25)) W := be0 e1 e2 e3 e4
              refine (same_run W (okE ok w.heap.size (w.heap.size + 3) gd) (okE ok w.heap.size (w.heap.size + 3) gd) q b.l[k] _ _ (K.out.2.2.2.2.1.bel hbW) (K.out.2.2.2.2.2.1.bel hbW) (by have := nice_cnt NQ.out; omega)).mono ?_
              rintro e w5 ⟨r, rfl, hr, hb⟩
              cases r with
              | false => exact ⟨rfl, bel_trans hbW hb⟩
              | true => exact absurd (hr.1 rfl) hsm
            have conO : Hid (∀ (w5 : World), Below (w4.alloc (.cells #[.int .i64 q.kind, .int .i64 q.n, .string ⟨q.s.toArray⟩, .slice a7 q.keys.length c7, .slice a8 q.l.length c8] 25)).heap.size (w4.alloc (.cells #[.int .i64 q.kind, .int .i64 q.n, .string ⟨q.s.toArray⟩, .slice a7 q.keys.length c7, .slice a8 q.l.length c8] 25)) w5 → ∀ W, W.heap = w5.heap → W.os = w5.os → W.tape = w5.tape → W.output = w5.output → Calls Tryz.prog 17 #[.agg #[.int .i64 q.kind, .int .i64 q.n, .string ⟨q.s.toArray⟩, .slice a7 q.keys.length c7, .slice a8 q.l.length c8], .agg #[.int .i64 b.l[k].kind, .int .i64 b.l[k].n, .string ⟨b.l[k].s.toArray⟩, .slice b5 b.l[k].keys.length d5, .slice b6 b.l[k].l.length d6]] W fun e w6 => ∃ (z : V) (b7 b8 : Option Addr) (d7 d8 : Nat), e = .returned (.agg #[.int .i64 z.kind, .int .i64 z.n, .string ⟨z.s.toArray⟩, .slice b7 z.keys.length d7, .slice b8 z.l.length d8]) ∧ z = diffF E q b.l[k] ∧ Below (w4.alloc (.cells #[.int .i64 q.kind, .int .i64 q.n, .string ⟨q.s.toArray⟩, .slice a7 q.keys.length c7, .slice a8 q.l.length c8] 25)).heap.size (w4.alloc (.cells #[.int .i64 q.kind, .int .i64 q.n, .string ⟨q.s.toArray⟩, .slice a7 q.keys.length c7, .slice a8 q.l.length c8] 25)) w6 ∧ In w6 (okE ok w.heap.size (w.heap.size + 3) gd) z (.agg #[.int .i64 z.kind, .int .i64 z.n, .string ⟨z.s.toArray⟩, .slice b7 z.keys.length d7, .slice b8 z.l.length d8])) := by
              intro w5 hb5 W e1 e2 e3 e4
              have hbW : Below (w4.alloc (.cells #[.int .i64 q.kind, .int .i64 q.n, .string ⟨q.s.toArray⟩, .slice a7 q.keys.length c7, .slice a8 q.l.length c8] 25)).heap.size (w4.alloc (.cells #[.int .i64 q.kind, .int .i64 q.n, .string ⟨q.s.toArray⟩, .slice a7 q.keys.length c7, .slice a8 q.l.length c8] 25)) W := bel_trans hb5 (be0 e1 e2 e3 e4)
              refine (IH.out W (okE ok w.heap.size (w.heap.size + 3) gd) q b.l[k] _ _ (K.out.2.2.2.2.1.bel hbW) (K.out.2.2.2.2.2.1.bel hbW) NQ.out (nice_mem NB.out (List.getElem_mem hlt')) (HD.out _ (List.getElem_mem hlt'))).mono ?_
              rintro e w6 ⟨r, rfl, hb, hr⟩
              obtain ⟨b7, b8, d7, d8, rfl⟩ := hr.form
              have s2 := hbW.size
              have s3 := K.out.2.2.2.2.2.2
              exact ⟨_, b7, b8, d7, d8, rfl, rfl, bel_trans hbW hb, hr.weak (okE_up (by omega) (by omega))⟩
            clear hsm
            go_wp2_with fail
            go_region_with ((go_at_call 30; refine (conS.out _ (by rfl) (by rfl) (by rfl) (by rfl)).mono ?_; rintro e w5 ⟨rfl, hb5⟩; have B5 := hidI hb5; clear hb5))
            all_goals
              obtain ⟨s0, s1, s2, s3, s4, -⟩ := (box_bel B5.out K.out.1.2.2.2).c
              have s5 := (box_bel B5.out K.out.1.2.1).c.2.2.2.2.1
              obtain ⟨r0, r1, r2, r3, r4, -⟩ := (box_bel B5.out K.out.2.1).c
              have h0 := cell_bel B5.out g0
              have h1 := cell_bel B5.out g1
              have h2 := cell_bel B5.out g2
              have h3 := cell_bel B5.out g3
              have h4 := cell_bel B5.out g4
              clear y0 y1 y2 y3 y4 q0 q1 q2 q3 q4 p4 bk g0 g1 g2 g3 g4
              go_wp2_with fail
              go_region_with (first
                | (go_at_call 17; refine (conO.out _ B5.out _ (by rfl) (by rfl) (by rfl) (by rfl)).mono ?_; rintro e w6 ⟨z, b7, b8, d7, d8, rfl, hz1, hz2, hz3⟩; have Z1 := hidI hz1; have Z2 := hidI hz2; have Z3 := hidI hz3; obtain ⟨m0, m1, m2, m3, m4, -⟩ := (box_bel hz2 K.out.1.2.2.2).c; clear hz1 hz2 hz3)
                | (go_at_call 24; refine (conW.out _ _ _ _ _ _ Z2.out Z3.out _ (by rfl) (by rfl) (by rfl) (by rfl)).mono ?_; rintro e w7 ⟨u, e5, e6, f5, f6, rfl, hu1, hu2, hu3⟩; have U := hidI (FIN.out _ _ _ _ _ _ (bel_trans Z2.out hu2) (by rw [hu1, Z1.out]; exact HS.out) hu3); obtain ⟨t0, t1, t2, t3, t4, t5, t6, t7, t8, t9⟩ := (box_bel (bel_trans Z2.out hu2) K.out.1.2.2.2).c; clear hu1 hu2 hu3))
              all_goals
                go_wp2_with fail
                go_roundg (b.keys.length - (k + 1))
                case measure => rw [GK.out]; omega
                case rel => exact ⟨k + 1, hlt, rfl, by go_num, U.out⟩
      · have HY : Hid (diffF (E + 1) a b = y) := hidI (by rw [HM.out, I.out.1, List.take_of_length_le (by rw [List.length_zip]; have := HKL.out; omega)])
        have d1 : ¬ (k : Int) < (b.keys.length : Int) := by omega
        obtain ⟨y0, y1, y2, y3, y4, -⟩ := I.out.2.1.2.2.2.c
        obtain ⟨z0, z1, z2, z3, z4, z5, z6, z7, z8, z9⟩ := I.out.2.1.2.2.1.c
        have gs := set5_gb wr (w.heap.size + 2) (.int .i64 y.kind) (.int .i64 y.n) (.string ⟨y.s.toArray⟩) (.slice a5 y.keys.length c5) (.slice a6 y.l.length c6)
        have Z : Hid (Below w.heap.size w (set5 wr (w.heap.size + 2) (.int .i64 y.kind) (.int .i64 y.n) (.string ⟨y.s.toArray⟩) (.slice a5 y.keys.length c5) (.slice a6 y.l.length c6)) ∧ In (set5 wr (w.heap.size + 2) (.int .i64 y.kind) (.int .i64 y.n) (.string ⟨y.s.toArray⟩) (.slice a5 y.keys.length c5) (.slice a6 y.l.length c6)) (okN ok w.heap.size) y (.agg #[.int .i64 y.kind, .int .i64 y.n, .string ⟨y.s.toArray⟩, .slice a5 y.keys.length c5, .slice a6 y.l.length c6])) := hidI ⟨bel_set5 I.out.2.2.1 (by omega) _ _ _ _ _, (I.out.2.2.2.grown gs (okE_ne2 (by omega) (by omega))).weak (okE_out (by omega))⟩
        have ZB : Hid _ := hidI (I.out.2.1.2.2.1.set (.int .i64 y.kind) (.int .i64 y.n) (.string ⟨y.s.toArray⟩) (.slice a5 y.keys.length c5) (.slice a6 y.l.length c6))
        clear gs
        go_wp2_with fail
        obtain ⟨q0, q1, q2, q3, q4, -⟩ := ZB.out.c
        refine bodyPost_ret (v := .agg #[.int .i64 y.kind, .int .i64 y.n, .string ⟨y.s.toArray⟩, .slice a5 y.keys.length c5, .slice a6 y.l.length c6]) ?_ rfl ?_
        · simp only [set5] at q0 q1 q2 q3 q4
          simp [results, Tryz.results17, go_sem, q0, q1, q2, q3, q4]
        · exact ⟨_, rfl, Z.out.1, by rw [HY.out]; exact Z.out.2⟩
  · have HM : Hid (diffF (E + 1) a b = b) := hidI (by rw [diffF, if_neg hab])
    have K := hidI ((HB.out.bel (B3.out (.cells #[.int .i64 a.kind, .int .i64 a.n, .string ⟨a.s.toArray⟩, .slice a1 a.keys.length c1, .slice a2 a.l.length c2] 25) (.cells #[.int .i64 b.kind, .int .i64 b.n, .string ⟨b.s.toArray⟩, .slice a3 b.keys.length c3, .slice a4 b.l.length c4] 25) (.cells #[.int .i64 b.kind, .int .i64 b.n, .string ⟨b.s.toArray⟩, .slice a3 b.keys.length c3, .slice a4 b.l.length c4] 25))).weak low_out)
    by_cases hka : a.kind = 5
    · have e0 : (a.kind != 5) = false := by rw [hka]; rfl
      have e1 : (b.kind != 5) = true := by rw [bne_iff_ne]; exact fun e => hab ⟨hka, e⟩
      clear hab hka
      go_enter Tryz.func17, Tryz.ntmps17
      go_wp2_with fail
      refine bodyPost_ret (v := .agg #[.int .i64 b.kind, .int .i64 b.n, .string ⟨b.s.toArray⟩, .slice a3 b.keys.length c3, .slice a4 b.l.length c4]) ?_ rfl ?_
      · simp [results, Tryz.results17, go_sem]
      · exact ⟨_, rfl, B3.out _ _ _, by rw [HM.out]; exact K.out⟩
    · have e0 : (a.kind != 5) = true := by rw [bne_iff_ne]; exact hka
      clear hab hka
      go_enter Tryz.func17, Tryz.ntmps17
      go_wp2_with fail
      refine bodyPost_ret (v := .agg #[.int .i64 b.kind, .int .i64 b.n, .string ⟨b.s.toArray⟩, .slice a3 b.keys.length c3, .slice a4 b.l.length c4]) ?_ rfl ?_
      · simp [results, Tryz.results17, go_sem]
      · exact ⟨_, rfl, B3.out _ _ _, by rw [HM.out]; exact K.out⟩
theorem other_is (E : Nat) : OtC E := by
  induction E with
  | zero => intro w ok a b va vb _ _ _ _ h; exact h.elim
  | succ E ih => exact other_succ E ih
end Go.Proofs.YtfbddgpekbhpfacGreatDoor

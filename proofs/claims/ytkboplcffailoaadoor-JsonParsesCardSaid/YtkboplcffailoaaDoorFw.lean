/- What WithMember of package stairwellref does. -/
import Derived.Test.YtkboplcffailoaaDoorFr
import Derived.Deep.CutRange
set_option linter.unusedSimpArgs false
set_option linter.unusedVariables false
namespace Go.Proofs.YtkboplcffailoaaDoor
open Go.RowKit

def FM (w : World) (t x : V) (a1 a2 a3 a4 : Option Addr) (c1 c2 c3 c4 : Nat) (W : World) : Prop := BoxIs W w.heap.size (.int .i64 t.kind) (.int .i64 t.n) (.string ⟨t.s.toArray⟩) (.slice a1 t.keys.length c1) (.slice a2 t.l.length c2) ∧ BoxIs W (w.heap.size + 1) (.int .i64 x.kind) (.int .i64 x.n) (.string ⟨x.s.toArray⟩) (.slice a3 x.keys.length c3) (.slice a4 x.l.length c4) ∧ BoxIs W (w.heap.size + 2) (.int .i64 0) (.int .i64 0) (.string ⟨#[]⟩) (.slice none 0 0) (.slice none 0 0)
theorem FM.stays (w : World) (t x : V) (a1 a2 a3 a4 : Option Addr) (c1 c2 c3 c4 : Nat) : Stays (w.heap.size + 3 + 1) (FM w t x a1 a2 a3 a4 c1 c2 c3 c4) := fun W W' r h1 h2 h3 =>
  ⟨bx_stays (B := w.heap.size + 3 + 1) (by omega) W W' r h1.1 h2 h3, bx_stays (B := w.heap.size + 3 + 1) (by omega) W W' r h1.2.1 h2 h3, bx_stays (B := w.heap.size + 3 + 1) (by omega) W W' r h1.2.2 h2 h3⟩
/- The pairs that are made; those that are to come make the rest. -/
def PI (w : World) (ok : Nat → Prop) (d : Nat) (t x : V) (a1 a2 a3 a4 : Option Addr) (c1 c2 c3 c4 : Nat) (ps : List (List UInt8 × V)) (wr : World) : Prop :=
  ∃ kv lv, SO w 3 (FM w t x a1 a2 a3 a4 c1 c2 c3 c4) kv lv wr ∧ OE w ok (w.heap.size + 3 + 1) d (ps.map Prod.fst) (ps.map Prod.snd) kv lv wr ∧ w.heap.size + 3 + 1 ≤ wr.heap.size
def WmI (w : World) (ok : Nat → Prop) (d : Nat) (t x : V) (key : List UInt8) (a1 a2 a3 a4 : Option Addr) (c1 c2 c3 c4 : Nat) (b : Bool) (k : Nat) (wr : World) : Prop :=
  ∃ ps, PI w ok d t x a1 a2 a3 a4 c1 c2 c3 c4 ps wr ∧ ps ++ wmF key x ((t.keys.zip t.l).drop k) b = wmF key x (t.keys.zip t.l) false
theorem pi_more {w W : World} {ok : Nat → Prop} {d : Nat} {t x y : V} {key : List UInt8} {a1 a2 a3 a4 : Option Addr} {c1 c2 c3 c4 : Nat} {ps : List (List UInt8 × V)} {kv lv kv' lv' : Value}
    (hs : SO w 3 (FM w t x a1 a2 a3 a4 c1 c2 c3 c4) kv lv W) (ho : OE w ok (w.heap.size + 3 + 1) d (ps.map Prod.fst ++ [key]) (ps.map Prod.snd ++ [y]) kv' lv' W) :
    PI w ok d t x a1 a2 a3 a4 c1 c2 c3 c4 (ps ++ [(key, y)]) ((W.setCell ⟨w.heap.size + 3, 3, none⟩ kv').setCell ⟨w.heap.size + 3, 4, none⟩ lv') := by
  refine ⟨kv', lv', hs.stored (fun W i x h => ⟨bx_set h.1 (by omega) i x, bx_set h.2.1 (by omega) i x, bx_set h.2.2 (by omega) i x⟩), ?_, ?_⟩
  · rw [List.map_append, List.map_append]
    exact (ho.set (by omega) (by omega) _ _).set (by omega) (by omega) _ _
  · have := hs.1.lt
    have e : ((W.setCell ⟨w.heap.size + 3, 3, none⟩ kv').setCell ⟨w.heap.size + 3, 4, none⟩ lv').heap.size = W.heap.size := by simp [World.setCell]
    omega
theorem wm_push {w W : World} {ok : Nat → Prop} {d : Nat} {t x : V} {key : List UInt8} {a1 a2 a3 a4 : Option Addr} {c1 c2 c3 c4 : Nat} {k : Nat} {ps : List (List UInt8 × V)} {kv lv kv' lv' : Value} (h1 : k < t.keys.length) (h2 : k < t.l.length) (hb : Op.bytesLess t.keys[k] key = false)
    (hps : ps ++ wmF key x ((t.keys.zip t.l).drop k) false = wmF key x (t.keys.zip t.l) false) (hs : SO w 3 (FM w t x a1 a2 a3 a4 c1 c2 c3 c4) kv lv W) (ho : OE w ok (w.heap.size + 3 + 1) d (ps.map Prod.fst ++ [key]) (ps.map Prod.snd ++ [x]) kv' lv' W) :
    WmI w ok d t x key a1 a2 a3 a4 c1 c2 c3 c4 true k ((W.setCell ⟨w.heap.size + 3, 3, none⟩ kv').setCell ⟨w.heap.size + 3, 4, none⟩ lv') := by
  refine ⟨_, pi_more hs ho, ?_⟩
  rw [← hps, zip_drop h1 h2]
  simp [wmF, hb]
theorem wm_item {w W : World} {ok : Nat → Prop} {d : Nat} {t x : V} {key : List UInt8} {a1 a2 a3 a4 : Option Addr} {c1 c2 c3 c4 : Nat} {k : Nat} {b : Bool} {ps : List (List UInt8 × V)} {kv lv kv' lv' : Value} (h1 : k < t.keys.length) (h2 : k < t.l.length) (hne : t.keys[k] ≠ key) (hb : b = false → Op.bytesLess t.keys[k] key = true)
    (hps : ps ++ wmF key x ((t.keys.zip t.l).drop k) b = wmF key x (t.keys.zip t.l) false) (hs : SO w 3 (FM w t x a1 a2 a3 a4 c1 c2 c3 c4) kv lv W) (ho : OE w ok (w.heap.size + 3 + 1) d (ps.map Prod.fst ++ [t.keys[k]]) (ps.map Prod.snd ++ [t.l[k]]) kv' lv' W) :
    WmI w ok d t x key a1 a2 a3 a4 c1 c2 c3 c4 b (k + 1) ((W.setCell ⟨w.heap.size + 3, 3, none⟩ kv').setCell ⟨w.heap.size + 3, 4, none⟩ lv') := by
  refine ⟨_, pi_more hs ho, ?_⟩
  rw [← hps, zip_drop h1 h2]
  cases b with
  | true => simp [wmF, hne]
  | false => simp [wmF, hne, hb rfl]
theorem wm_less {w wr : World} {ok : Nat → Prop} {d : Nat} {t x : V} {key : List UInt8} {a1 a2 a3 a4 : Option Addr} {c1 c2 c3 c4 : Nat} {k : Nat} {b : Bool} (h1 : k < t.keys.length) (h2 : k < t.l.length) (he : t.keys[k] = key) (hb : b = false → Op.bytesLess t.keys[k] key = true) (h : WmI w ok d t x key a1 a2 a3 a4 c1 c2 c3 c4 b k wr) : WmI w ok d t x key a1 a2 a3 a4 c1 c2 c3 c4 b (k + 1) wr := by
  obtain ⟨ps, i1, i2⟩ := h
  refine ⟨ps, i1, ?_⟩
  cases b with
  | false => have := less_ne (hb rfl); exact absurd he this
  | true =>
    rw [← i2, zip_drop h1 h2]
    simp [wmF, he]
theorem wm_len {key : List UInt8} {x : V} : ∀ (ps : List (List UInt8 × V)) (b : Bool), (wmF key x ps b).length ≤ ps.length + 1
  | [], b => by cases b <;> simp [wmF]
  | p :: r, b => by
    cases b with
    | true => rw [wm_put]; exact Nat.le_trans (List.length_filter_le _ _) (by simp)
    | false =>
      unfold wmF
      cases hb : Op.bytesLess p.1 key with
      | true =>
        have := wm_len (key := key) (x := x) r false
        by_cases h : p.1 = key <;> simp [h] <;> omega
      | false =>
        have h0 : (wmF key x r true).length ≤ r.length := by rw [wm_put]; exact List.length_filter_le _ _
        by_cases h : p.1 = key <;> simp [h] <;> omega
theorem wm_keys {key : List UInt8} {x : V} : ∀ (ps : List (List UInt8 × V)) (b : Bool), ∀ p ∈ wmF key x ps b, p.1 = key ∨ p ∈ ps
  | [], b => by cases b <;> simp [wmF]
  | q :: r, b => by
    intro p hp
    unfold wmF at hp
    simp only [List.mem_append] at hp
    rcases hp with (h | h) | h
    · split at h
      · rw [List.mem_singleton] at h; exact .inl (by rw [h])
      · cases h
    · split at h
      · rw [List.mem_singleton] at h; exact .inr (by rw [h]; simp)
      · cases h
    · rcases wm_keys r _ p h with h | h
      · exact .inl h
      · exact .inr (by simp [h])
/- Behind all. -/
theorem wm_fin {w wr : World} {ok : Nat → Prop} {d : Nat} {t x : V} {key : List UInt8} {a1 a2 a3 a4 : Option Addr} {c1 c2 c3 c4 : Nat} {ks : Value} {kv lv : Value} (ho : Ob t) (hkey : key.length ≤ maxLen) (hks : StrsAre w ok t.keys ks) (lk : t.keys.length ≤ 100000)
    (h : ∃ ps, ps = wmF key x (t.keys.zip t.l) false ∧ SO w 3 (FM w t x a1 a2 a3 a4 c1 c2 c3 c4) kv lv wr ∧ OE w ok (w.heap.size + 3 + 1) d (ps.map Prod.fst) (ps.map Prod.snd) kv lv wr) :
    VIs (set5 wr (w.heap.size + 2) (.int .i64 5) (.int .i64 0) (.string ⟨#[]⟩) kv lv) (okN ok w.heap.size) (d + 1) (withV t key x) (.agg #[.int .i64 5, .int .i64 0, .string ⟨#[]⟩, kv, lv]) ∧ Below w.heap.size w (set5 wr (w.heap.size + 2) (.int .i64 5) (.int .i64 0) (.string ⟨#[]⟩) kv lv) ∧
      (BoxIs wr (w.heap.size + 2) (.int .i64 0) (.int .i64 0) (.string ⟨#[]⟩) (.slice none 0 0) (.slice none 0 0) ∧ BoxIs wr (w.heap.size + 3) (.int .i64 5) (.int .i64 0) (.string ⟨#[]⟩) kv lv) ∧ BoxIs (set5 wr (w.heap.size + 2) (.int .i64 5) (.int .i64 0) (.string ⟨#[]⟩) kv lv) (w.heap.size + 2) (.int .i64 5) (.int .i64 0) (.string ⟨#[]⟩) kv lv := by
  obtain ⟨ps, rfl, i1, i2⟩ := h
  have hs : OE w ok (w.heap.size + 3 + 1) d _ _ kv lv (set5 wr (w.heap.size + 2) (.int .i64 5) (.int .i64 0) (.string ⟨#[]⟩) kv lv) := ((((i2.set (by omega) (by omega) _ _).set (by omega) (by omega) _ _).set (by omega) (by omega) _ _).set (by omega) (by omega) _ _).set (by omega) (by omega) _ _
  have hz : (t.keys.zip t.l).length ≤ 100000 := by simp; omega
  have hl := wm_len (key := key) (x := x) (t.keys.zip t.l) false
  refine ⟨?_, hs.below, ⟨i1.2.1.2.2, i1.1⟩, i1.2.1.2.2.set _ _ _ _ _⟩
  rw [← wm_with ho key x]
  refine hs.made ?_ (by rw [List.length_map]; omega) (by rw [List.length_map]; omega)
  intro y hy
  rw [List.mem_map] at hy
  obtain ⟨p, hp, rfl⟩ := hy
  rcases wm_keys _ _ p hp with h | h
  · rw [h]; exact hkey
  · exact hks.mem _ (List.of_mem_zip h).1
theorem wm_end {w W : World} {ok : Nat → Prop} {d : Nat} {t x : V} {key : List UInt8} {a1 a2 a3 a4 : Option Addr} {c1 c2 c3 c4 : Nat} {ps : List (List UInt8 × V)} {kv lv kv' lv' : Value} (hps : ps ++ [(key, x)] = wmF key x (t.keys.zip t.l) false)
    (hs : SO w 3 (FM w t x a1 a2 a3 a4 c1 c2 c3 c4) kv lv W) (ho : OE w ok (w.heap.size + 3 + 1) d (ps.map Prod.fst ++ [key]) (ps.map Prod.snd ++ [x]) kv' lv' W) :
    ∃ qs, qs = wmF key x (t.keys.zip t.l) false ∧ SO w 3 (FM w t x a1 a2 a3 a4 c1 c2 c3 c4) kv' lv' ((W.setCell ⟨w.heap.size + 3, 3, none⟩ kv').setCell ⟨w.heap.size + 3, 4, none⟩ lv') ∧ OE w ok (w.heap.size + 3 + 1) d (qs.map Prod.fst) (qs.map Prod.snd) kv' lv' ((W.setCell ⟨w.heap.size + 3, 3, none⟩ kv').setCell ⟨w.heap.size + 3, 4, none⟩ lv') := by
  refine ⟨_, hps, hs.stored (fun W i x h => ⟨bx_set h.1 (by omega) i x, bx_set h.2.1 (by omega) i x, bx_set h.2.2 (by omega) i x⟩), ?_⟩
  rw [List.map_append, List.map_append]
  exact (ho.set (by omega) (by omega) _ _).set (by omega) (by omega) _ _

attribute [local go_sem ↓] Go.wp_at_zero Go.wp_at_succ
set_option maxRecDepth 100000 in
set_option maxHeartbeats 4000000 in
theorem rwith_at (w : World) (ok : Nat → Prop) (d : Nat) (t x : V) (v xv : Value) (key : List UInt8) (h : VIs w ok (d + 1) t v) (hx : VIs w ok d x xv) (ho : Ob t) (hl : t.l.length ≤ 100000) (hkey : key.length ≤ maxLen) :
    Calls Tryd.prog 44 #[v, str key, xv] w fun e w' => ∃ r, e = .returned r ∧ VIs w' (okN ok w.heap.size) (d + 1) (withV t key x) r ∧ Below w.heap.size w w' := by
  obtain ⟨a1, a2, c1, c2, rfl⟩ := h.shape
  obtain ⟨a3, a4, c3, c4, rfl⟩ := hx.shape
  have OB := hidI ho
  have HL := hidI ho.2.2.2.1
  have VV : Hid (ValsAre w ok (VIs w ok d) t.l (.slice a2 t.l.length c2) ∧ StrsAre w ok t.keys (.slice a1 t.keys.length c1)) := hidI (by
    obtain ⟨ks, ls, e, h1, h2, h3, h4, h5⟩ := h
    simp only [Value.agg.injEq, Array.mk.injEq, List.cons.injEq, and_true] at e
    obtain ⟨-, -, -, rfl, rfl⟩ := e
    exact ⟨h5, h4⟩)
  have HX := hidI hx.below
  have lk : t.keys.length ≤ 100000 := by rw [HL.out]; exact hl
  clear h ho hx
  unfold str
  have HF : Hid _ := hidI (FM.stays w t x a1 a2 a3 a4 c1 c2 c3 c4)
  have I0 : Hid (WmI w ok d t x key a1 a2 a3 a4 c1 c2 c3 c4 false 0 ((((w.alloc (.cells #[.int .i64 t.kind, .int .i64 t.n, .string ⟨t.s.toArray⟩, .slice a1 t.keys.length c1, .slice a2 t.l.length c2] 25)).alloc (.cells #[.int .i64 x.kind, .int .i64 x.n, .string ⟨x.s.toArray⟩, .slice a3 x.keys.length c3, .slice a4 x.l.length c4] 25)).alloc (.cells #[.int .i64 0, .int .i64 0, .string ⟨#[]⟩, .slice none 0 0, .slice none 0 0] 25)).alloc (.cells #[.int .i64 5, .int .i64 0, .string ⟨#[]⟩, .slice none 0 0, .slice none 0 0] 25))) := hidI (by
    have hb : Below w.heap.size w ((((w.alloc (.cells #[.int .i64 t.kind, .int .i64 t.n, .string ⟨t.s.toArray⟩, .slice a1 t.keys.length c1, .slice a2 t.l.length c2] 25)).alloc (.cells #[.int .i64 x.kind, .int .i64 x.n, .string ⟨x.s.toArray⟩, .slice a3 x.keys.length c3, .slice a4 x.l.length c4] 25)).alloc (.cells #[.int .i64 0, .int .i64 0, .string ⟨#[]⟩, .slice none 0 0, .slice none 0 0] 25)).alloc (.cells #[.int .i64 5, .int .i64 0, .string ⟨#[]⟩, .slice none 0 0, .slice none 0 0] 25)) := bel_trans (bel_trans (bel_trans (bel_alloc _ _) (bel_alloc _ _)) (bel_alloc _ _)) (bel_alloc _ _)
    refine ⟨[], ⟨.slice none 0 0, .slice none 0 0, ⟨?_, ⟨?_, ?_, ?_⟩, hb⟩, OE.nil hb (by omega), by simp⟩, by simp⟩
    · exact h4dd w _ _ _ _
    · exact box_bel (bel_alloc _ _) (h3a w _ _ _)
    · exact box_bel (bel_alloc _ _) (h3b w _ _ _)
    · exact box_bel (bel_alloc _ _) (h3c w _ _ _))
  go_enter Tryd.func44, Tryd.ntmps44
  go_wp2_with fail
  go_loopg [8, 15] t.keys.length (fun gk p i wr => ∃ (k : Nat) (b : Bool), k ≤ t.keys.length ∧ gk = t.keys.length - k ∧ i = .int .i64 k ∧ p = .bool b ∧ WmI w ok d t x key a1 a2 a3 a4 c1 c2 c3 c4 b k wr)
  case atStart => exact ⟨0, false, Nat.zero_le _, rfl, rfl, rfl, I0.out⟩
  case round =>
    obtain ⟨k, b, hk, hgk, rfl, rfl, hI⟩ := hrel
    have GK := hidI hgk
    have II := hidI hI
    clear hgk hI I0
    by_cases hlt : k < t.keys.length
    · have hlt' : k < t.l.length := by have := HL.out; omega
      obtain ⟨kb, ko, rfl, j1, j2, jk⟩ := strs_at VV.out.2 hlt
      have w1 : (0 : Int) ≤ (k : Int) := by omega
      have w2 : (k : Int) < (t.keys.length : Int) := by omega
      have w3 : (k : Int) < (t.l.length : Int) := by omega
      unfold maxLen at j2
      have jk2 := cell_bel (by obtain ⟨ps, ⟨kv, lv, i1, -⟩, -⟩ := II.out; exact i1.2.2) jk
      cases b with
      | true =>
        go_upto_if 26 with fail
        go_cut [8] from 16 to 58 (fun p wc => ∃ b : Bool, p = .bool b ∧ WmI w ok d t x key (some ⟨kb, ko, none⟩) a2 a3 a4 c1 c2 c3 c4 b k wc ∧ (b = false → Op.bytesLess (t.keys[k]'hlt) key = true))
        case first =>
          go_wp2_with fail
          go_meet
          case rel => exact ⟨true, rfl, II.out, by simp⟩
        case rest =>
          obtain ⟨b, rfl, hI, hbl⟩ := hcut
          have II := hidI hI
          have HBL := hidI hbl
          clear hI hbl
          by_cases he : t.keys[k] = key
          · have e3 : (t.keys[k] == key) = true := by simp [he]
            have HN := hidI (wm_less hlt hlt' he HBL.out II.out)
            clear he
            go_wp2_with fail
            go_roundg (t.keys.length - (k + 1))
            case measure => rw [GK.out]; omega
            case rel => exact ⟨k + 1, b, hlt, rfl, by go_num, rfl, HN.out⟩
          · have e3 : (t.keys[k] == key) = false := by simp [he]
            have HNE := hidI he
            obtain ⟨xb, xo, rfl, j3, j4, a5, c5, a6, c6, g0, g1, g2, g3, g4, g5⟩ := vals_at VV.out.1 hlt'
            unfold maxLen at j4
            have G0 := hidI g0
            have G1 := hidI g1
            have G2 := hidI g2
            have G3 := hidI g3
            have G4 := hidI g4
            have HY := hidI g5.below
            obtain ⟨ps, ⟨kv, lv, i1, i2, i4⟩, i3⟩ := II.out
            have HPS := hidI i3
            have hpl : ps.length ≤ 100001 := by
              have h0 := congrArg List.length i3
              have h1 := wm_len (key := key) (x := x) (t.keys.zip t.l) false
              simp at h0 h1
              omega
            have hnk : (ps.map Prod.fst).length ≤ 1000000 := by rw [List.length_map]; omega
            have hnl : (ps.map Prod.snd).length ≤ 1000000 := by rw [List.length_map]; omega
            have OEc := hidI i2
            have hBc : w.heap.size + 3 + 1 ≤ wc.heap.size := i4
            have SOc := hidI i1
            have LK : Hid (∀ g, kv.ownBlock = some g → g < wc.heap.size) := hidI (fun g e => (i2.kown g e).2)
            clear he g0 g1 g2 g3 g4 g5 i1 i2 i3 i4 hpl
            go_upto_region 10 with fail
            refine wp_region_T (SO w 3 (FM w t x (some ⟨kb, ko, none⟩) (some ⟨xb, xo, none⟩) a3 a4 c1 c2 c3 c4) kv lv) [15] (by kernel_rfl) (SOc.out.drew HF.out) (fun hHeld => ?_)
            refine wpAnyT_take (i := 0) (v := ?_) [1, 4, 13, 14, 15, 16, 17] (oi := { dst := some 42, op := Go.Op.fieldAddr 25 (Go.Operand.tmp 7) 3, type := 0, pos := "low.go:339", after := #[], guard := none }) rfl (by kernel_rfl) (by kernel_rfl) (by kernel_rfl) (by kernel_rfl) (fun _ _ _ h => h) (Or.inl ⟨by rfl, ?_⟩) hHeld ?_
            rotate_left
            · intro wS hSw
              go_simp
              all_goals with_reducible rfl
            simp only [Act.put, List.setIfInBounds_toArray, List.set_cons_zero, List.set_cons_succ]
            refine wpAnyT_take (i := 1) (v := ?_) [4, 13, 14, 15, 16, 17] (oi := { dst := some 43, op := Go.Op.load 22 (Go.Operand.tmp 42), type := 22, pos := "low.go:339", after := #[{ on := 0, ground := Go.Ground.data }], guard := none }) rfl (by kernel_rfl) (by kernel_rfl) (by kernel_rfl) (by kernel_rfl) (fun _ _ _ h => h) (Or.inl ⟨by rfl, ?_⟩) hHeld ?_
            rotate_left
            · intro wS hSw
              obtain ⟨s1, ⟨s2, s3, s5⟩, s4⟩ := hSw
              obtain ⟨x0, x1, x2, x3, x4, -⟩ := s1.c
              obtain ⟨y0, y1, y2, y3, y4, -⟩ := s2.c
              obtain ⟨z0, z1, z2, z3, z4, -⟩ := s3.c
              have e0 := cell_bel s4 G0.out
              have e1 := cell_bel s4 G1.out
              have e2 := cell_bel s4 G2.out
              have e3 := cell_bel s4 G3.out
              have e4 := cell_bel s4 G4.out
              go_simp
              all_goals with_reducible rfl
            simp only [Act.put, List.setIfInBounds_toArray, List.set_cons_zero, List.set_cons_succ]
            refine wpAnyT_take (i := 2) (v := ?_) [3, 4, 13, 14, 15, 16, 17] (oi := { dst := some 44, op := Go.Op.move (Go.Operand.tmp 10), type := 9, pos := "low.go:339", after := #[], guard := none }) rfl (by kernel_rfl) (by kernel_rfl) (by kernel_rfl) (by kernel_rfl) (fun _ _ _ h => h) (Or.inl ⟨by rfl, ?_⟩) hHeld ?_
            rotate_left
            · intro wS hSw
              go_simp
              all_goals with_reducible rfl
            simp only [Act.put, List.setIfInBounds_toArray, List.set_cons_zero, List.set_cons_succ]
            refine wpAnyT_take (i := 5) (v := ?_) [6, 13, 14, 15, 16, 17] (oi := { dst := some 47, op := Go.Op.fieldAddr 25 (Go.Operand.tmp 7) 4, type := 0, pos := "low.go:339", after := #[], guard := none }) rfl (by kernel_rfl) (by kernel_rfl) (by kernel_rfl) (by kernel_rfl) (fun _ _ _ h => h) (Or.inl ⟨by rfl, ?_⟩) hHeld ?_
            rotate_left
            · intro wS hSw
              go_simp
              all_goals with_reducible rfl
            simp only [Act.put, List.setIfInBounds_toArray, List.set_cons_zero, List.set_cons_succ]
            refine wpAnyT_take (i := 6) (v := ?_) [13, 14, 15, 16, 17] (oi := { dst := some 48, op := Go.Op.load 23 (Go.Operand.tmp 47), type := 23, pos := "low.go:339", after := #[{ on := 5, ground := Go.Ground.data }], guard := none }) rfl (by kernel_rfl) (by kernel_rfl) (by kernel_rfl) (by kernel_rfl) (fun _ _ _ h => h) (Or.inl ⟨by rfl, ?_⟩) hHeld ?_
            rotate_left
            · intro wS hSw
              obtain ⟨s1, ⟨s2, s3, s5⟩, s4⟩ := hSw
              obtain ⟨x0, x1, x2, x3, x4, -⟩ := s1.c
              obtain ⟨y0, y1, y2, y3, y4, -⟩ := s2.c
              obtain ⟨z0, z1, z2, z3, z4, -⟩ := s3.c
              have e0 := cell_bel s4 G0.out
              have e1 := cell_bel s4 G1.out
              have e2 := cell_bel s4 G2.out
              have e3 := cell_bel s4 G3.out
              have e4 := cell_bel s4 G4.out
              go_simp
              all_goals with_reducible rfl
            simp only [Act.put, List.setIfInBounds_toArray, List.set_cons_zero, List.set_cons_succ]
            refine wpAnyT_take (i := 7) (v := ?_) [8, 10, 11, 12, 13, 15, 16, 17] (oi := { dst := some 49, op := Go.Op.fieldAddr 25 (Go.Operand.tmp 3) 4, type := 0, pos := "low.go:339", after := #[], guard := none }) rfl (by kernel_rfl) (by kernel_rfl) (by kernel_rfl) (by kernel_rfl) (fun _ _ _ h => h) (Or.inl ⟨by rfl, ?_⟩) hHeld ?_
            rotate_left
            · intro wS hSw
              go_simp
              all_goals with_reducible rfl
            simp only [Act.put, List.setIfInBounds_toArray, List.set_cons_zero, List.set_cons_succ]
            refine wpAnyT_take (i := 8) (v := ?_) [10, 11, 12, 13, 15, 16, 17] (oi := { dst := some 50, op := Go.Op.load 23 (Go.Operand.tmp 49), type := 23, pos := "low.go:339", after := #[{ on := 7, ground := Go.Ground.data }], guard := none }) rfl (by kernel_rfl) (by kernel_rfl) (by kernel_rfl) (by kernel_rfl) (fun _ _ _ h => h) (Or.inl ⟨by rfl, ?_⟩) hHeld ?_
            rotate_left
            · intro wS hSw
              obtain ⟨s1, ⟨s2, s3, s5⟩, s4⟩ := hSw
              obtain ⟨x0, x1, x2, x3, x4, -⟩ := s1.c
              obtain ⟨y0, y1, y2, y3, y4, -⟩ := s2.c
              obtain ⟨z0, z1, z2, z3, z4, -⟩ := s3.c
              have e0 := cell_bel s4 G0.out
              have e1 := cell_bel s4 G1.out
              have e2 := cell_bel s4 G2.out
              have e3 := cell_bel s4 G3.out
              have e4 := cell_bel s4 G4.out
              go_simp
              all_goals with_reducible rfl
            simp only [Act.put, List.setIfInBounds_toArray, List.set_cons_zero, List.set_cons_succ]
            refine wpAnyT_take (i := 9) (v := ?_) [10, 11, 12, 13, 15, 16, 17] (oi := { dst := some 51, op := Go.Op.move (Go.Operand.tmp 9), type := 3, pos := "low.go:339", after := #[], guard := none }) rfl (by kernel_rfl) (by kernel_rfl) (by kernel_rfl) (by kernel_rfl) (fun _ _ _ h => h) (Or.inl ⟨by rfl, ?_⟩) hHeld ?_
            rotate_left
            · intro wS hSw
              go_simp
              all_goals with_reducible rfl
            simp only [Act.put, List.setIfInBounds_toArray, List.set_cons_zero, List.set_cons_succ]
            refine wpAnyT_take (i := 10) (v := ?_) [11, 12, 13, 15, 16, 17] (oi := { dst := some 52, op := Go.Op.indexAddr 23 (Go.Operand.tmp 50) (Go.Operand.tmp 51), type := 0, pos := "low.go:339", after := #[{ on := 8, ground := Go.Ground.data }, { on := 9, ground := Go.Ground.data }], guard := none }) rfl (by kernel_rfl) (by kernel_rfl) (by kernel_rfl) (by kernel_rfl) (fun _ _ _ h => h) (Or.inl ⟨by rfl, ?_⟩) hHeld ?_
            rotate_left
            · intro wS hSw
              go_simp
              all_goals with_reducible rfl
            simp only [Act.put, List.setIfInBounds_toArray, List.set_cons_zero, List.set_cons_succ]
            refine wpAnyT_take (i := 11) (v := ?_) [12, 13, 15, 16, 17] (oi := { dst := some 53, op := Go.Op.load 25 (Go.Operand.tmp 52), type := 25, pos := "low.go:339", after := #[{ on := 10, ground := Go.Ground.data }], guard := none }) rfl (by kernel_rfl) (by kernel_rfl) (by kernel_rfl) (by kernel_rfl) (fun _ _ _ h => h) (Or.inl ⟨by rfl, ?_⟩) hHeld ?_
            rotate_left
            · intro wS hSw
              obtain ⟨s1, ⟨s2, s3, s5⟩, s4⟩ := hSw
              obtain ⟨x0, x1, x2, x3, x4, -⟩ := s1.c
              obtain ⟨y0, y1, y2, y3, y4, -⟩ := s2.c
              obtain ⟨z0, z1, z2, z3, z4, -⟩ := s3.c
              have e0 := cell_bel s4 G0.out
              have e1 := cell_bel s4 G1.out
              have e2 := cell_bel s4 G2.out
              have e3 := cell_bel s4 G3.out
              have e4 := cell_bel s4 G4.out
              go_simp
              all_goals with_reducible rfl
            simp only [Act.put, List.setIfInBounds_toArray, List.set_cons_zero, List.set_cons_succ]
            refine wpAnyT_ready (rs := [3, 12]) (by kernel_rfl) (by simp) ?_
            refine AllReadyT.cons (i := 3) (o := { dst := some 45, op := Go.Op.buildSlice 22 1 #[(0, Go.Operand.tmp 44)], type := 22, pos := "low.go:339", after := #[{ on := 2, ground := Go.Ground.data }], guard := none }) rfl (fun K hK => ?_) ?_
            · go_simp
              replace SOc := hidI (SOc.out.alloc HF.out (.cells #[.string ⟨t.keys[k].toArray⟩] 9))
              replace OEc := hidI (OEc.out.bel (bel_alloc _ (.cells #[.string ⟨t.keys[k].toArray⟩] 9)))
              replace hBc := Nat.le_trans hBc (bel_alloc _ (.cells #[.string ⟨t.keys[k].toArray⟩] 9)).size
              have NBK : Hid ((wc.alloc (.cells #[.string ⟨t.keys[k].toArray⟩] 9)).heap[wc.heap.size]? = some (.cells #[.string ⟨t.keys[k].toArray⟩] 9)) := hidI (heap_alloc_new _ _)
              refine hK.out _ _ (SOc.out.drew HF.out) (fun hHeld2 => ?_)
              clear hK K
              replace hHeld := hHeld2
              clear hHeld2
              try simp only [Act.put, List.setIfInBounds_toArray, List.set_cons_zero, List.set_cons_succ]
              refine wpAnyT_ready (rs := [4, 12]) (by kernel_rfl) (by simp) ?_
              refine AllReadyT.cons (i := 4) (o := { dst := some 46, op := Go.Op.call { callee := Go.Callee.builtin Go.Builtin.append, args := #[Go.Operand.tmp 43, Go.Operand.tmp 45], argTypes := #[22, 22] }, type := 22, pos := "low.go:339", after := #[{ on := 1, ground := Go.Ground.data }, { on := 3, ground := Go.Ground.data }], guard := none }) rfl (fun K hK => ?_) ?_
              · have OEd := hidI OEc.out.drew
                have NBd : Hid (((wc.alloc (.cells #[.string ⟨t.keys[k].toArray⟩] 9)).drew).heap[wc.heap.size]? = some (.cells #[.string ⟨t.keys[k].toArray⟩] 9)) := hidI NBK.out
                refine step_run (by rfl) (.tmp 43) (.tmp 45) 22 (by rfl) _ _ rfl rfl _ (fun ty => OEd.out.key NBd.out hnk (by exact hBc) ty) (fun v9 W9 hR => ?_)
                obtain ⟨ho9, hg9, gK, cK, rfl⟩ := hR
                replace SOc := hidI (hHeld.grown HF.out hg9 (fun g e => (OEd.out.kown g e).1))
                refine hK.out _ _ SOc.out (fun hHeld2 => ?_)
                replace OEc := hidI ho9
                replace hBc := Nat.le_trans (by exact hBc) hg9.size
                clear ho9 hg9 OEd NBd
                clear hK K
                replace hHeld := hHeld2
                clear hHeld2
                try simp only [Act.put, List.setIfInBounds_toArray, List.set_cons_zero, List.set_cons_succ]
                refine wpAnyT_take (i := 14) (v := ?_) [15, 16, 17] (oi := { dst := some 56, op := Go.Op.fieldAddr 25 (Go.Operand.tmp 7) 3, type := 0, pos := "low.go:339", after := #[{ on := 0, ground := Go.Ground.phase }, { on := 1, ground := Go.Ground.phase }, { on := 2, ground := Go.Ground.phase }, { on := 3, ground := Go.Ground.phase }, { on := 4, ground := Go.Ground.phase }, { on := 5, ground := Go.Ground.phase }, { on := 6, ground := Go.Ground.phase }, { on := 7, ground := Go.Ground.textOnly Go.Departure.lateStores }, { on := 8, ground := Go.Ground.textOnly Go.Departure.lateStores }, { on := 9, ground := Go.Ground.textOnly Go.Departure.lateStores }, { on := 10, ground := Go.Ground.textOnly Go.Departure.lateStores }, { on := 11, ground := Go.Ground.textOnly Go.Departure.lateStores }, { on := 12, ground := Go.Ground.textOnly Go.Departure.lateStores }, { on := 13, ground := Go.Ground.textOnly Go.Departure.lateStoresUnsure }], guard := none }) rfl (by kernel_rfl) (by kernel_rfl) (by kernel_rfl) (by kernel_rfl) (fun _ _ _ h => h) (Or.inl ⟨by rfl, ?_⟩) hHeld ?_
                rotate_left
                · intro wS hSw
                  go_simp
                  all_goals with_reducible rfl
                simp only [Act.put, List.setIfInBounds_toArray, List.set_cons_zero, List.set_cons_succ]
                refine wpAnyT_ready (rs := [12]) (by kernel_rfl) (by simp) ?_
                refine AllReadyT.cons (i := 12) (o := { dst := some 54, op := Go.Op.buildSlice 23 1 #[(0, Go.Operand.tmp 53)], type := 23, pos := "low.go:339", after := #[{ on := 11, ground := Go.Ground.data }], guard := none }) rfl (fun K hK => ?_) ?_
                · go_simp
                  replace SOc := hidI (SOc.out.alloc HF.out (.cells #[.int .i64 t.l[k].kind, .int .i64 t.l[k].n, .string ⟨t.l[k].s.toArray⟩, .slice a5 t.l[k].keys.length c5, .slice a6 t.l[k].l.length c6] 25))
                  replace OEc := hidI (OEc.out.bel (bel_alloc _ (.cells #[.int .i64 t.l[k].kind, .int .i64 t.l[k].n, .string ⟨t.l[k].s.toArray⟩, .slice a5 t.l[k].keys.length c5, .slice a6 t.l[k].l.length c6] 25)))
                  replace hBc := Nat.le_trans hBc (bel_alloc _ (.cells #[.int .i64 t.l[k].kind, .int .i64 t.l[k].n, .string ⟨t.l[k].s.toArray⟩, .slice a5 t.l[k].keys.length c5, .slice a6 t.l[k].l.length c6] 25)).size
                  have NBV : Hid ((W9.alloc (.cells #[.int .i64 t.l[k].kind, .int .i64 t.l[k].n, .string ⟨t.l[k].s.toArray⟩, .slice a5 t.l[k].keys.length c5, .slice a6 t.l[k].l.length c6] 25)).heap[W9.heap.size]? = some (.cells #[.int .i64 t.l[k].kind, .int .i64 t.l[k].n, .string ⟨t.l[k].s.toArray⟩, .slice a5 t.l[k].keys.length c5, .slice a6 t.l[k].l.length c6] 25)) := hidI (heap_alloc_new _ _)
                  refine hK.out _ _ (SOc.out) (fun hHeld2 => ?_)
                  clear hK K
                  replace hHeld := hHeld2
                  clear hHeld2
                  try simp only [Act.put, List.setIfInBounds_toArray, List.set_cons_zero, List.set_cons_succ]
                  refine wpAnyT_ready (rs := [13]) (by kernel_rfl) (by simp) ?_
                  refine AllReadyT.cons (i := 13) (o := { dst := some 55, op := Go.Op.call { callee := Go.Callee.builtin Go.Builtin.append, args := #[Go.Operand.tmp 48, Go.Operand.tmp 54], argTypes := #[23, 23] }, type := 23, pos := "low.go:339", after := #[{ on := 6, ground := Go.Ground.data }, { on := 12, ground := Go.Ground.data }, { on := 4, ground := Go.Ground.chain }], guard := none }) rfl (fun K hK => ?_) ?_
                  · have OEd := hidI OEc.out
                    have HY2 := hidI (HY.out.bel OEd.out.below)
                    have NBd := hidI NBV.out
                    refine step_run (by rfl) (.tmp 48) (.tmp 54) 23 (by rfl) _ _ rfl rfl _ (fun ty => OEd.out.item NBd.out HY2.out hnl (by exact hBc) ty) (fun v9 W9 hR => ?_)
                    obtain ⟨ho9, hg9, gV, cV, rfl⟩ := hR
                    replace SOc := hidI (hHeld.grown HF.out hg9 (fun g e => (OEd.out.lown g e).1))
                    refine hK.out _ _ SOc.out (fun hHeld2 => ?_)
                    replace OEc := hidI ho9
                    replace hBc := Nat.le_trans (by exact hBc) hg9.size
                    clear ho9 hg9 OEd NBd
                    clear hK K
                    replace hHeld := hHeld2
                    clear hHeld2
                    try simp only [Act.put, List.setIfInBounds_toArray, List.set_cons_zero, List.set_cons_succ]
                    obtain ⟨o0, o1, o2, o3, o4, f0, f1, f2, f3, f4⟩ := hHeld.1.c
                    have HE := hidI hHeld
                    clear hHeld
                    refine wpAnyT_last (i := 15) (o := { dst := none, op := Go.Op.store 22 (Go.Operand.tmp 56) (Go.Operand.tmp 46), type := 0, pos := "low.go:339", after := #[{ on := 14, ground := Go.Ground.data }, { on := 4, ground := Go.Ground.data }, { on := 13, ground := Go.Ground.chain }, { on := 0, ground := Go.Ground.phase }, { on := 1, ground := Go.Ground.phase }, { on := 2, ground := Go.Ground.phase }, { on := 3, ground := Go.Ground.phase }, { on := 4, ground := Go.Ground.phase }, { on := 5, ground := Go.Ground.phase }, { on := 6, ground := Go.Ground.phase }, { on := 7, ground := Go.Ground.textOnly Go.Departure.lateStores }, { on := 8, ground := Go.Ground.textOnly Go.Departure.lateStores }, { on := 9, ground := Go.Ground.textOnly Go.Departure.lateStores }, { on := 10, ground := Go.Ground.textOnly Go.Departure.lateStores }, { on := 11, ground := Go.Ground.textOnly Go.Departure.lateStores }, { on := 12, ground := Go.Ground.textOnly Go.Departure.lateStores }, { on := 13, ground := Go.Ground.textOnly Go.Departure.lateStoresUnsure }], guard := none }) (by kernel_rfl) (by rfl) rfl (fun K hK => ?_)
                    go_simp
                    refine hK.out _ _ ?_
                    clear hK K
                    try simp only [Act.put, List.setIfInBounds_toArray, List.set_cons_zero, List.set_cons_succ]
                    refine wpAnyT_last (i := 16) (o := { dst := some 57, op := Go.Op.fieldAddr 25 (Go.Operand.tmp 7) 4, type := 0, pos := "low.go:339", after := #[{ on := 0, ground := Go.Ground.phase }, { on := 1, ground := Go.Ground.phase }, { on := 2, ground := Go.Ground.phase }, { on := 3, ground := Go.Ground.phase }, { on := 4, ground := Go.Ground.phase }, { on := 5, ground := Go.Ground.phase }, { on := 6, ground := Go.Ground.phase }, { on := 7, ground := Go.Ground.phase }, { on := 8, ground := Go.Ground.phase }, { on := 9, ground := Go.Ground.phase }, { on := 10, ground := Go.Ground.phase }, { on := 11, ground := Go.Ground.phase }, { on := 12, ground := Go.Ground.phase }, { on := 13, ground := Go.Ground.phase }, { on := 14, ground := Go.Ground.phase }, { on := 15, ground := Go.Ground.phase }], guard := none }) (by kernel_rfl) (by rfl) rfl (fun K hK => ?_)
                    go_simp
                    refine hK.out _ _ ?_
                    clear hK K
                    try simp only [Act.put, List.setIfInBounds_toArray, List.set_cons_zero, List.set_cons_succ]
                    refine wpAnyT_last (i := 17) (o := { dst := none, op := Go.Op.store 23 (Go.Operand.tmp 57) (Go.Operand.tmp 55), type := 0, pos := "low.go:339", after := #[{ on := 16, ground := Go.Ground.data }, { on := 13, ground := Go.Ground.data }, { on := 15, ground := Go.Ground.chain }, { on := 0, ground := Go.Ground.phase }, { on := 1, ground := Go.Ground.phase }, { on := 2, ground := Go.Ground.phase }, { on := 3, ground := Go.Ground.phase }, { on := 4, ground := Go.Ground.phase }, { on := 5, ground := Go.Ground.phase }, { on := 6, ground := Go.Ground.phase }, { on := 7, ground := Go.Ground.phase }, { on := 8, ground := Go.Ground.phase }, { on := 9, ground := Go.Ground.phase }, { on := 10, ground := Go.Ground.phase }, { on := 11, ground := Go.Ground.phase }, { on := 12, ground := Go.Ground.phase }, { on := 13, ground := Go.Ground.phase }, { on := 14, ground := Go.Ground.phase }, { on := 15, ground := Go.Ground.phase }], guard := none }) (by kernel_rfl) (by rfl) rfl (fun K hK => ?_)
                    go_simp
                    refine hK.out _ _ ?_
                    clear hK K
                    try simp only [Act.put, List.setIfInBounds_toArray, List.set_cons_zero, List.set_cons_succ]
                    refine wpAnyT_done (by kernel_rfl) ?_ _
                    go_wp2_with fail
                    go_roundg (t.keys.length - (k + 1))
                    case measure => rw [GK.out]; omega
                    case rel => exact ⟨k + 1, b, hlt, rfl, by go_num, rfl, wm_item hlt hlt' HNE.out HBL.out HPS.out HE.out (by have h9 := OEc.out; simp only [List.length_map] at h9; exact h9)⟩
                  exact AllReadyT.nil
                exact AllReadyT.nil
              refine AllReadyT.cons (i := 12) (o := { dst := some 54, op := Go.Op.buildSlice 23 1 #[(0, Go.Operand.tmp 53)], type := 23, pos := "low.go:339", after := #[{ on := 11, ground := Go.Ground.data }], guard := none }) rfl (fun K hK => ?_) ?_
              · go_simp
                replace SOc := hidI (SOc.out.alloc HF.out (.cells #[.int .i64 t.l[k].kind, .int .i64 t.l[k].n, .string ⟨t.l[k].s.toArray⟩, .slice a5 t.l[k].keys.length c5, .slice a6 t.l[k].l.length c6] 25))
                replace OEc := hidI (OEc.out.bel (bel_alloc _ (.cells #[.int .i64 t.l[k].kind, .int .i64 t.l[k].n, .string ⟨t.l[k].s.toArray⟩, .slice a5 t.l[k].keys.length c5, .slice a6 t.l[k].l.length c6] 25)))
                replace hBc := Nat.le_trans hBc (bel_alloc _ (.cells #[.int .i64 t.l[k].kind, .int .i64 t.l[k].n, .string ⟨t.l[k].s.toArray⟩, .slice a5 t.l[k].keys.length c5, .slice a6 t.l[k].l.length c6] 25)).size
                clear NBK
                have NBK : Hid (((wc.alloc (.cells #[.string ⟨t.keys[k].toArray⟩] 9)).alloc (.cells #[.int .i64 t.l[k].kind, .int .i64 t.l[k].n, .string ⟨t.l[k].s.toArray⟩, .slice a5 t.l[k].keys.length c5, .slice a6 t.l[k].l.length c6] 25)).heap[wc.heap.size]? = some (.cells #[.string ⟨t.keys[k].toArray⟩] 9)) := hidI (h2a _ _ _)
                have NBV : Hid (((wc.alloc (.cells #[.string ⟨t.keys[k].toArray⟩] 9)).alloc (.cells #[.int .i64 t.l[k].kind, .int .i64 t.l[k].n, .string ⟨t.l[k].s.toArray⟩, .slice a5 t.l[k].keys.length c5, .slice a6 t.l[k].l.length c6] 25)).heap[wc.heap.size + 1]? = some (.cells #[.int .i64 t.l[k].kind, .int .i64 t.l[k].n, .string ⟨t.l[k].s.toArray⟩, .slice a5 t.l[k].keys.length c5, .slice a6 t.l[k].l.length c6] 25)) := hidI (h2b _ _ _)
                refine hK.out _ _ (SOc.out.drew HF.out) (fun hHeld2 => ?_)
                clear hK K
                replace hHeld := hHeld2
                clear hHeld2
                try simp only [Act.put, List.setIfInBounds_toArray, List.set_cons_zero, List.set_cons_succ]
                refine wpAnyT_ready (rs := [4]) (by kernel_rfl) (by simp) ?_
                refine AllReadyT.cons (i := 4) (o := { dst := some 46, op := Go.Op.call { callee := Go.Callee.builtin Go.Builtin.append, args := #[Go.Operand.tmp 43, Go.Operand.tmp 45], argTypes := #[22, 22] }, type := 22, pos := "low.go:339", after := #[{ on := 1, ground := Go.Ground.data }, { on := 3, ground := Go.Ground.data }], guard := none }) rfl (fun K hK => ?_) ?_
                · have OEd := hidI OEc.out.drew
                  have NBd : Hid ((((wc.alloc (.cells #[.string ⟨t.keys[k].toArray⟩] 9)).alloc (.cells #[.int .i64 t.l[k].kind, .int .i64 t.l[k].n, .string ⟨t.l[k].s.toArray⟩, .slice a5 t.l[k].keys.length c5, .slice a6 t.l[k].l.length c6] 25)).drew).heap[wc.heap.size]? = some (.cells #[.string ⟨t.keys[k].toArray⟩] 9)) := hidI NBK.out
                  refine step_run (by rfl) (.tmp 43) (.tmp 45) 22 (by rfl) _ _ rfl rfl _ (fun ty => OEd.out.key NBd.out hnk (by exact hBc) ty) (fun v9 W9 hR => ?_)
                  obtain ⟨ho9, hg9, gK, cK, rfl⟩ := hR
                  replace SOc := hidI (hHeld.grown HF.out hg9 (fun g e => (OEd.out.kown g e).1))
                  refine hK.out _ _ SOc.out (fun hHeld2 => ?_)
                  replace NBV := hidI (nb_grown ((by exact NBV.out : (((wc.alloc (.cells #[.string ⟨t.keys[k].toArray⟩] 9)).alloc (.cells #[.int .i64 t.l[k].kind, .int .i64 t.l[k].n, .string ⟨t.l[k].s.toArray⟩, .slice a5 t.l[k].keys.length c5, .slice a6 t.l[k].l.length c6] 25)).drew).heap[wc.heap.size + 1]? = some (.cells #[.int .i64 t.l[k].kind, .int .i64 t.l[k].n, .string ⟨t.l[k].s.toArray⟩, .slice a5 t.l[k].keys.length c5, .slice a6 t.l[k].l.length c6] 25))) hg9 (fun e => by have := LK.out _ e.symm; omega))
                  replace OEc := hidI ho9
                  replace hBc := Nat.le_trans (by exact hBc) hg9.size
                  clear ho9 hg9 OEd NBd
                  clear hK K
                  replace hHeld := hHeld2
                  clear hHeld2
                  try simp only [Act.put, List.setIfInBounds_toArray, List.set_cons_zero, List.set_cons_succ]
                  refine wpAnyT_take (i := 14) (v := ?_) [15, 16, 17] (oi := { dst := some 56, op := Go.Op.fieldAddr 25 (Go.Operand.tmp 7) 3, type := 0, pos := "low.go:339", after := #[{ on := 0, ground := Go.Ground.phase }, { on := 1, ground := Go.Ground.phase }, { on := 2, ground := Go.Ground.phase }, { on := 3, ground := Go.Ground.phase }, { on := 4, ground := Go.Ground.phase }, { on := 5, ground := Go.Ground.phase }, { on := 6, ground := Go.Ground.phase }, { on := 7, ground := Go.Ground.textOnly Go.Departure.lateStores }, { on := 8, ground := Go.Ground.textOnly Go.Departure.lateStores }, { on := 9, ground := Go.Ground.textOnly Go.Departure.lateStores }, { on := 10, ground := Go.Ground.textOnly Go.Departure.lateStores }, { on := 11, ground := Go.Ground.textOnly Go.Departure.lateStores }, { on := 12, ground := Go.Ground.textOnly Go.Departure.lateStores }, { on := 13, ground := Go.Ground.textOnly Go.Departure.lateStoresUnsure }], guard := none }) rfl (by kernel_rfl) (by kernel_rfl) (by kernel_rfl) (by kernel_rfl) (fun _ _ _ h => h) (Or.inl ⟨by rfl, ?_⟩) hHeld ?_
                  rotate_left
                  · intro wS hSw
                    go_simp
                    all_goals with_reducible rfl
                  simp only [Act.put, List.setIfInBounds_toArray, List.set_cons_zero, List.set_cons_succ]
                  refine wpAnyT_ready (rs := [13]) (by kernel_rfl) (by simp) ?_
                  refine AllReadyT.cons (i := 13) (o := { dst := some 55, op := Go.Op.call { callee := Go.Callee.builtin Go.Builtin.append, args := #[Go.Operand.tmp 48, Go.Operand.tmp 54], argTypes := #[23, 23] }, type := 23, pos := "low.go:339", after := #[{ on := 6, ground := Go.Ground.data }, { on := 12, ground := Go.Ground.data }, { on := 4, ground := Go.Ground.chain }], guard := none }) rfl (fun K hK => ?_) ?_
                  · have OEd := hidI OEc.out
                    have HY2 := hidI (HY.out.bel OEd.out.below)
                    have NBd := hidI NBV.out
                    refine step_run (by rfl) (.tmp 48) (.tmp 54) 23 (by rfl) _ _ rfl rfl _ (fun ty => OEd.out.item NBd.out HY2.out hnl (by exact hBc) ty) (fun v9 W9 hR => ?_)
                    obtain ⟨ho9, hg9, gV, cV, rfl⟩ := hR
                    replace SOc := hidI (hHeld.grown HF.out hg9 (fun g e => (OEd.out.lown g e).1))
                    refine hK.out _ _ SOc.out (fun hHeld2 => ?_)
                    replace OEc := hidI ho9
                    replace hBc := Nat.le_trans (by exact hBc) hg9.size
                    clear ho9 hg9 OEd NBd
                    clear hK K
                    replace hHeld := hHeld2
                    clear hHeld2
                    try simp only [Act.put, List.setIfInBounds_toArray, List.set_cons_zero, List.set_cons_succ]
                    obtain ⟨o0, o1, o2, o3, o4, f0, f1, f2, f3, f4⟩ := hHeld.1.c
                    have HE := hidI hHeld
                    clear hHeld
                    refine wpAnyT_last (i := 15) (o := { dst := none, op := Go.Op.store 22 (Go.Operand.tmp 56) (Go.Operand.tmp 46), type := 0, pos := "low.go:339", after := #[{ on := 14, ground := Go.Ground.data }, { on := 4, ground := Go.Ground.data }, { on := 13, ground := Go.Ground.chain }, { on := 0, ground := Go.Ground.phase }, { on := 1, ground := Go.Ground.phase }, { on := 2, ground := Go.Ground.phase }, { on := 3, ground := Go.Ground.phase }, { on := 4, ground := Go.Ground.phase }, { on := 5, ground := Go.Ground.phase }, { on := 6, ground := Go.Ground.phase }, { on := 7, ground := Go.Ground.textOnly Go.Departure.lateStores }, { on := 8, ground := Go.Ground.textOnly Go.Departure.lateStores }, { on := 9, ground := Go.Ground.textOnly Go.Departure.lateStores }, { on := 10, ground := Go.Ground.textOnly Go.Departure.lateStores }, { on := 11, ground := Go.Ground.textOnly Go.Departure.lateStores }, { on := 12, ground := Go.Ground.textOnly Go.Departure.lateStores }, { on := 13, ground := Go.Ground.textOnly Go.Departure.lateStoresUnsure }], guard := none }) (by kernel_rfl) (by rfl) rfl (fun K hK => ?_)
                    go_simp
                    refine hK.out _ _ ?_
                    clear hK K
                    try simp only [Act.put, List.setIfInBounds_toArray, List.set_cons_zero, List.set_cons_succ]
                    refine wpAnyT_last (i := 16) (o := { dst := some 57, op := Go.Op.fieldAddr 25 (Go.Operand.tmp 7) 4, type := 0, pos := "low.go:339", after := #[{ on := 0, ground := Go.Ground.phase }, { on := 1, ground := Go.Ground.phase }, { on := 2, ground := Go.Ground.phase }, { on := 3, ground := Go.Ground.phase }, { on := 4, ground := Go.Ground.phase }, { on := 5, ground := Go.Ground.phase }, { on := 6, ground := Go.Ground.phase }, { on := 7, ground := Go.Ground.phase }, { on := 8, ground := Go.Ground.phase }, { on := 9, ground := Go.Ground.phase }, { on := 10, ground := Go.Ground.phase }, { on := 11, ground := Go.Ground.phase }, { on := 12, ground := Go.Ground.phase }, { on := 13, ground := Go.Ground.phase }, { on := 14, ground := Go.Ground.phase }, { on := 15, ground := Go.Ground.phase }], guard := none }) (by kernel_rfl) (by rfl) rfl (fun K hK => ?_)
                    go_simp
                    refine hK.out _ _ ?_
                    clear hK K
                    try simp only [Act.put, List.setIfInBounds_toArray, List.set_cons_zero, List.set_cons_succ]
                    refine wpAnyT_last (i := 17) (o := { dst := none, op := Go.Op.store 23 (Go.Operand.tmp 57) (Go.Operand.tmp 55), type := 0, pos := "low.go:339", after := #[{ on := 16, ground := Go.Ground.data }, { on := 13, ground := Go.Ground.data }, { on := 15, ground := Go.Ground.chain }, { on := 0, ground := Go.Ground.phase }, { on := 1, ground := Go.Ground.phase }, { on := 2, ground := Go.Ground.phase }, { on := 3, ground := Go.Ground.phase }, { on := 4, ground := Go.Ground.phase }, { on := 5, ground := Go.Ground.phase }, { on := 6, ground := Go.Ground.phase }, { on := 7, ground := Go.Ground.phase }, { on := 8, ground := Go.Ground.phase }, { on := 9, ground := Go.Ground.phase }, { on := 10, ground := Go.Ground.phase }, { on := 11, ground := Go.Ground.phase }, { on := 12, ground := Go.Ground.phase }, { on := 13, ground := Go.Ground.phase }, { on := 14, ground := Go.Ground.phase }, { on := 15, ground := Go.Ground.phase }], guard := none }) (by kernel_rfl) (by rfl) rfl (fun K hK => ?_)
                    go_simp
                    refine hK.out _ _ ?_
                    clear hK K
                    try simp only [Act.put, List.setIfInBounds_toArray, List.set_cons_zero, List.set_cons_succ]
                    refine wpAnyT_done (by kernel_rfl) ?_ _
                    go_wp2_with fail
                    go_roundg (t.keys.length - (k + 1))
                    case measure => rw [GK.out]; omega
                    case rel => exact ⟨k + 1, b, hlt, rfl, by go_num, rfl, wm_item hlt hlt' HNE.out HBL.out HPS.out HE.out (by have h9 := OEc.out; simp only [List.length_map] at h9; exact h9)⟩
                  exact AllReadyT.nil
                exact AllReadyT.nil
              exact AllReadyT.nil
            refine AllReadyT.cons (i := 12) (o := { dst := some 54, op := Go.Op.buildSlice 23 1 #[(0, Go.Operand.tmp 53)], type := 23, pos := "low.go:339", after := #[{ on := 11, ground := Go.Ground.data }], guard := none }) rfl (fun K hK => ?_) ?_
            · go_simp
              replace SOc := hidI (SOc.out.alloc HF.out (.cells #[.int .i64 t.l[k].kind, .int .i64 t.l[k].n, .string ⟨t.l[k].s.toArray⟩, .slice a5 t.l[k].keys.length c5, .slice a6 t.l[k].l.length c6] 25))
              replace OEc := hidI (OEc.out.bel (bel_alloc _ (.cells #[.int .i64 t.l[k].kind, .int .i64 t.l[k].n, .string ⟨t.l[k].s.toArray⟩, .slice a5 t.l[k].keys.length c5, .slice a6 t.l[k].l.length c6] 25)))
              replace hBc := Nat.le_trans hBc (bel_alloc _ (.cells #[.int .i64 t.l[k].kind, .int .i64 t.l[k].n, .string ⟨t.l[k].s.toArray⟩, .slice a5 t.l[k].keys.length c5, .slice a6 t.l[k].l.length c6] 25)).size
              have NBV : Hid ((wc.alloc (.cells #[.int .i64 t.l[k].kind, .int .i64 t.l[k].n, .string ⟨t.l[k].s.toArray⟩, .slice a5 t.l[k].keys.length c5, .slice a6 t.l[k].l.length c6] 25)).heap[wc.heap.size]? = some (.cells #[.int .i64 t.l[k].kind, .int .i64 t.l[k].n, .string ⟨t.l[k].s.toArray⟩, .slice a5 t.l[k].keys.length c5, .slice a6 t.l[k].l.length c6] 25)) := hidI (heap_alloc_new _ _)
              refine hK.out _ _ (SOc.out.drew HF.out) (fun hHeld2 => ?_)
              clear hK K
              replace hHeld := hHeld2
              clear hHeld2
              try simp only [Act.put, List.setIfInBounds_toArray, List.set_cons_zero, List.set_cons_succ]
              refine wpAnyT_ready (rs := [3]) (by kernel_rfl) (by simp) ?_
              refine AllReadyT.cons (i := 3) (o := { dst := some 45, op := Go.Op.buildSlice 22 1 #[(0, Go.Operand.tmp 44)], type := 22, pos := "low.go:339", after := #[{ on := 2, ground := Go.Ground.data }], guard := none }) rfl (fun K hK => ?_) ?_
              · go_simp
                replace SOc := hidI (SOc.out.alloc HF.out (.cells #[.string ⟨t.keys[k].toArray⟩] 9))
                replace OEc := hidI (OEc.out.bel (bel_alloc _ (.cells #[.string ⟨t.keys[k].toArray⟩] 9)))
                replace hBc := Nat.le_trans hBc (bel_alloc _ (.cells #[.string ⟨t.keys[k].toArray⟩] 9)).size
                clear NBV
                have NBV : Hid (((wc.alloc (.cells #[.int .i64 t.l[k].kind, .int .i64 t.l[k].n, .string ⟨t.l[k].s.toArray⟩, .slice a5 t.l[k].keys.length c5, .slice a6 t.l[k].l.length c6] 25)).alloc (.cells #[.string ⟨t.keys[k].toArray⟩] 9)).heap[wc.heap.size]? = some (.cells #[.int .i64 t.l[k].kind, .int .i64 t.l[k].n, .string ⟨t.l[k].s.toArray⟩, .slice a5 t.l[k].keys.length c5, .slice a6 t.l[k].l.length c6] 25)) := hidI (h2a _ _ _)
                have NBK : Hid (((wc.alloc (.cells #[.int .i64 t.l[k].kind, .int .i64 t.l[k].n, .string ⟨t.l[k].s.toArray⟩, .slice a5 t.l[k].keys.length c5, .slice a6 t.l[k].l.length c6] 25)).alloc (.cells #[.string ⟨t.keys[k].toArray⟩] 9)).heap[wc.heap.size + 1]? = some (.cells #[.string ⟨t.keys[k].toArray⟩] 9)) := hidI (h2b _ _ _)
                refine hK.out _ _ (SOc.out.drew HF.out) (fun hHeld2 => ?_)
                clear hK K
                replace hHeld := hHeld2
                clear hHeld2
                try simp only [Act.put, List.setIfInBounds_toArray, List.set_cons_zero, List.set_cons_succ]
                refine wpAnyT_ready (rs := [4]) (by kernel_rfl) (by simp) ?_
                refine AllReadyT.cons (i := 4) (o := { dst := some 46, op := Go.Op.call { callee := Go.Callee.builtin Go.Builtin.append, args := #[Go.Operand.tmp 43, Go.Operand.tmp 45], argTypes := #[22, 22] }, type := 22, pos := "low.go:339", after := #[{ on := 1, ground := Go.Ground.data }, { on := 3, ground := Go.Ground.data }], guard := none }) rfl (fun K hK => ?_) ?_
                · have OEd := hidI OEc.out.drew
                  have NBd : Hid ((((wc.alloc (.cells #[.int .i64 t.l[k].kind, .int .i64 t.l[k].n, .string ⟨t.l[k].s.toArray⟩, .slice a5 t.l[k].keys.length c5, .slice a6 t.l[k].l.length c6] 25)).alloc (.cells #[.string ⟨t.keys[k].toArray⟩] 9)).drew).heap[wc.heap.size + 1]? = some (.cells #[.string ⟨t.keys[k].toArray⟩] 9)) := hidI NBK.out
                  refine step_run (by rfl) (.tmp 43) (.tmp 45) 22 (by rfl) _ _ rfl rfl _ (fun ty => OEd.out.key NBd.out hnk (by exact hBc) ty) (fun v9 W9 hR => ?_)
                  obtain ⟨ho9, hg9, gK, cK, rfl⟩ := hR
                  replace SOc := hidI (hHeld.grown HF.out hg9 (fun g e => (OEd.out.kown g e).1))
                  refine hK.out _ _ SOc.out (fun hHeld2 => ?_)
                  replace NBV := hidI (nb_grown ((by exact NBV.out : (((wc.alloc (.cells #[.int .i64 t.l[k].kind, .int .i64 t.l[k].n, .string ⟨t.l[k].s.toArray⟩, .slice a5 t.l[k].keys.length c5, .slice a6 t.l[k].l.length c6] 25)).alloc (.cells #[.string ⟨t.keys[k].toArray⟩] 9)).drew).heap[wc.heap.size]? = some (.cells #[.int .i64 t.l[k].kind, .int .i64 t.l[k].n, .string ⟨t.l[k].s.toArray⟩, .slice a5 t.l[k].keys.length c5, .slice a6 t.l[k].l.length c6] 25))) hg9 (fun e => by have := LK.out _ e.symm; omega))
                  replace OEc := hidI ho9
                  replace hBc := Nat.le_trans (by exact hBc) hg9.size
                  clear ho9 hg9 OEd NBd
                  clear hK K
                  replace hHeld := hHeld2
                  clear hHeld2
                  try simp only [Act.put, List.setIfInBounds_toArray, List.set_cons_zero, List.set_cons_succ]
                  refine wpAnyT_take (i := 14) (v := ?_) [15, 16, 17] (oi := { dst := some 56, op := Go.Op.fieldAddr 25 (Go.Operand.tmp 7) 3, type := 0, pos := "low.go:339", after := #[{ on := 0, ground := Go.Ground.phase }, { on := 1, ground := Go.Ground.phase }, { on := 2, ground := Go.Ground.phase }, { on := 3, ground := Go.Ground.phase }, { on := 4, ground := Go.Ground.phase }, { on := 5, ground := Go.Ground.phase }, { on := 6, ground := Go.Ground.phase }, { on := 7, ground := Go.Ground.textOnly Go.Departure.lateStores }, { on := 8, ground := Go.Ground.textOnly Go.Departure.lateStores }, { on := 9, ground := Go.Ground.textOnly Go.Departure.lateStores }, { on := 10, ground := Go.Ground.textOnly Go.Departure.lateStores }, { on := 11, ground := Go.Ground.textOnly Go.Departure.lateStores }, { on := 12, ground := Go.Ground.textOnly Go.Departure.lateStores }, { on := 13, ground := Go.Ground.textOnly Go.Departure.lateStoresUnsure }], guard := none }) rfl (by kernel_rfl) (by kernel_rfl) (by kernel_rfl) (by kernel_rfl) (fun _ _ _ h => h) (Or.inl ⟨by rfl, ?_⟩) hHeld ?_
                  rotate_left
                  · intro wS hSw
                    go_simp
                    all_goals with_reducible rfl
                  simp only [Act.put, List.setIfInBounds_toArray, List.set_cons_zero, List.set_cons_succ]
                  refine wpAnyT_ready (rs := [13]) (by kernel_rfl) (by simp) ?_
                  refine AllReadyT.cons (i := 13) (o := { dst := some 55, op := Go.Op.call { callee := Go.Callee.builtin Go.Builtin.append, args := #[Go.Operand.tmp 48, Go.Operand.tmp 54], argTypes := #[23, 23] }, type := 23, pos := "low.go:339", after := #[{ on := 6, ground := Go.Ground.data }, { on := 12, ground := Go.Ground.data }, { on := 4, ground := Go.Ground.chain }], guard := none }) rfl (fun K hK => ?_) ?_
                  · have OEd := hidI OEc.out
                    have HY2 := hidI (HY.out.bel OEd.out.below)
                    have NBd := hidI NBV.out
                    refine step_run (by rfl) (.tmp 48) (.tmp 54) 23 (by rfl) _ _ rfl rfl _ (fun ty => OEd.out.item NBd.out HY2.out hnl (by exact hBc) ty) (fun v9 W9 hR => ?_)
                    obtain ⟨ho9, hg9, gV, cV, rfl⟩ := hR
                    replace SOc := hidI (hHeld.grown HF.out hg9 (fun g e => (OEd.out.lown g e).1))
                    refine hK.out _ _ SOc.out (fun hHeld2 => ?_)
                    replace OEc := hidI ho9
                    replace hBc := Nat.le_trans (by exact hBc) hg9.size
                    clear ho9 hg9 OEd NBd
                    clear hK K
                    replace hHeld := hHeld2
                    clear hHeld2
                    try simp only [Act.put, List.setIfInBounds_toArray, List.set_cons_zero, List.set_cons_succ]
                    obtain ⟨o0, o1, o2, o3, o4, f0, f1, f2, f3, f4⟩ := hHeld.1.c
                    have HE := hidI hHeld
                    clear hHeld
                    refine wpAnyT_last (i := 15) (o := { dst := none, op := Go.Op.store 22 (Go.Operand.tmp 56) (Go.Operand.tmp 46), type := 0, pos := "low.go:339", after := #[{ on := 14, ground := Go.Ground.data }, { on := 4, ground := Go.Ground.data }, { on := 13, ground := Go.Ground.chain }, { on := 0, ground := Go.Ground.phase }, { on := 1, ground := Go.Ground.phase }, { on := 2, ground := Go.Ground.phase }, { on := 3, ground := Go.Ground.phase }, { on := 4, ground := Go.Ground.phase }, { on := 5, ground := Go.Ground.phase }, { on := 6, ground := Go.Ground.phase }, { on := 7, ground := Go.Ground.textOnly Go.Departure.lateStores }, { on := 8, ground := Go.Ground.textOnly Go.Departure.lateStores }, { on := 9, ground := Go.Ground.textOnly Go.Departure.lateStores }, { on := 10, ground := Go.Ground.textOnly Go.Departure.lateStores }, { on := 11, ground := Go.Ground.textOnly Go.Departure.lateStores }, { on := 12, ground := Go.Ground.textOnly Go.Departure.lateStores }, { on := 13, ground := Go.Ground.textOnly Go.Departure.lateStoresUnsure }], guard := none }) (by kernel_rfl) (by rfl) rfl (fun K hK => ?_)
                    go_simp
                    refine hK.out _ _ ?_
                    clear hK K
                    try simp only [Act.put, List.setIfInBounds_toArray, List.set_cons_zero, List.set_cons_succ]
                    refine wpAnyT_last (i := 16) (o := { dst := some 57, op := Go.Op.fieldAddr 25 (Go.Operand.tmp 7) 4, type := 0, pos := "low.go:339", after := #[{ on := 0, ground := Go.Ground.phase }, { on := 1, ground := Go.Ground.phase }, { on := 2, ground := Go.Ground.phase }, { on := 3, ground := Go.Ground.phase }, { on := 4, ground := Go.Ground.phase }, { on := 5, ground := Go.Ground.phase }, { on := 6, ground := Go.Ground.phase }, { on := 7, ground := Go.Ground.phase }, { on := 8, ground := Go.Ground.phase }, { on := 9, ground := Go.Ground.phase }, { on := 10, ground := Go.Ground.phase }, { on := 11, ground := Go.Ground.phase }, { on := 12, ground := Go.Ground.phase }, { on := 13, ground := Go.Ground.phase }, { on := 14, ground := Go.Ground.phase }, { on := 15, ground := Go.Ground.phase }], guard := none }) (by kernel_rfl) (by rfl) rfl (fun K hK => ?_)
                    go_simp
                    refine hK.out _ _ ?_
                    clear hK K
                    try simp only [Act.put, List.setIfInBounds_toArray, List.set_cons_zero, List.set_cons_succ]
                    refine wpAnyT_last (i := 17) (o := { dst := none, op := Go.Op.store 23 (Go.Operand.tmp 57) (Go.Operand.tmp 55), type := 0, pos := "low.go:339", after := #[{ on := 16, ground := Go.Ground.data }, { on := 13, ground := Go.Ground.data }, { on := 15, ground := Go.Ground.chain }, { on := 0, ground := Go.Ground.phase }, { on := 1, ground := Go.Ground.phase }, { on := 2, ground := Go.Ground.phase }, { on := 3, ground := Go.Ground.phase }, { on := 4, ground := Go.Ground.phase }, { on := 5, ground := Go.Ground.phase }, { on := 6, ground := Go.Ground.phase }, { on := 7, ground := Go.Ground.phase }, { on := 8, ground := Go.Ground.phase }, { on := 9, ground := Go.Ground.phase }, { on := 10, ground := Go.Ground.phase }, { on := 11, ground := Go.Ground.phase }, { on := 12, ground := Go.Ground.phase }, { on := 13, ground := Go.Ground.phase }, { on := 14, ground := Go.Ground.phase }, { on := 15, ground := Go.Ground.phase }], guard := none }) (by kernel_rfl) (by rfl) rfl (fun K hK => ?_)
                    go_simp
                    refine hK.out _ _ ?_
                    clear hK K
                    try simp only [Act.put, List.setIfInBounds_toArray, List.set_cons_zero, List.set_cons_succ]
                    refine wpAnyT_done (by kernel_rfl) ?_ _
                    go_wp2_with fail
                    go_roundg (t.keys.length - (k + 1))
                    case measure => rw [GK.out]; omega
                    case rel => exact ⟨k + 1, b, hlt, rfl, by go_num, rfl, wm_item hlt hlt' HNE.out HBL.out HPS.out HE.out (by have h9 := OEc.out; simp only [List.length_map] at h9; exact h9)⟩
                  exact AllReadyT.nil
                exact AllReadyT.nil
              exact AllReadyT.nil
            exact AllReadyT.nil
      | false =>
        cases hb : Op.bytesLess t.keys[k] key with
        | true =>
          have HB := hidI hb
          go_upto_if 26 with fail
          go_cut [8] from 16 to 58 (fun p wc => ∃ b : Bool, p = .bool b ∧ WmI w ok d t x key (some ⟨kb, ko, none⟩) a2 a3 a4 c1 c2 c3 c4 b k wc ∧ (b = false → Op.bytesLess (t.keys[k]'hlt) key = true))
          case first =>
            go_wp2_with fail
            go_meet
            case rel => exact ⟨false, rfl, II.out, fun _ => HB.out⟩
          case rest =>
            obtain ⟨b, rfl, hI, hbl⟩ := hcut
            have II := hidI hI
            have HBL := hidI hbl
            clear hI hbl
            by_cases he : t.keys[k] = key
            · have e3 : (t.keys[k] == key) = true := by simp [he]
              have HN := hidI (wm_less hlt hlt' he HBL.out II.out)
              clear he
              go_wp2_with fail
              go_roundg (t.keys.length - (k + 1))
              case measure => rw [GK.out]; omega
              case rel => exact ⟨k + 1, b, hlt, rfl, by go_num, rfl, HN.out⟩
            · have e3 : (t.keys[k] == key) = false := by simp [he]
              have HNE := hidI he
              obtain ⟨xb, xo, rfl, j3, j4, a5, c5, a6, c6, g0, g1, g2, g3, g4, g5⟩ := vals_at VV.out.1 hlt'
              unfold maxLen at j4
              have G0 := hidI g0
              have G1 := hidI g1
              have G2 := hidI g2
              have G3 := hidI g3
              have G4 := hidI g4
              have HY := hidI g5.below
              obtain ⟨ps, ⟨kv, lv, i1, i2, i4⟩, i3⟩ := II.out
              have HPS := hidI i3
              have hpl : ps.length ≤ 100001 := by
                have h0 := congrArg List.length i3
                have h1 := wm_len (key := key) (x := x) (t.keys.zip t.l) false
                simp at h0 h1
                omega
              have hnk : (ps.map Prod.fst).length ≤ 1000000 := by rw [List.length_map]; omega
              have hnl : (ps.map Prod.snd).length ≤ 1000000 := by rw [List.length_map]; omega
              have OEc := hidI i2
              have hBc : w.heap.size + 3 + 1 ≤ wc.heap.size := i4
              have SOc := hidI i1
              have LK : Hid (∀ g, kv.ownBlock = some g → g < wc.heap.size) := hidI (fun g e => (i2.kown g e).2)
              clear he g0 g1 g2 g3 g4 g5 i1 i2 i3 i4 hpl
              go_upto_region 10 with fail
              refine wp_region_T (SO w 3 (FM w t x (some ⟨kb, ko, none⟩) (some ⟨xb, xo, none⟩) a3 a4 c1 c2 c3 c4) kv lv) [15] (by kernel_rfl) (SOc.out.drew HF.out) (fun hHeld => ?_)
              refine wpAnyT_take (i := 0) (v := ?_) [1, 4, 13, 14, 15, 16, 17] (oi := { dst := some 42, op := Go.Op.fieldAddr 25 (Go.Operand.tmp 7) 3, type := 0, pos := "low.go:339", after := #[], guard := none }) rfl (by kernel_rfl) (by kernel_rfl) (by kernel_rfl) (by kernel_rfl) (fun _ _ _ h => h) (Or.inl ⟨by rfl, ?_⟩) hHeld ?_
              rotate_left
              · intro wS hSw
                go_simp
                all_goals with_reducible rfl
              simp only [Act.put, List.setIfInBounds_toArray, List.set_cons_zero, List.set_cons_succ]
              refine wpAnyT_take (i := 1) (v := ?_) [4, 13, 14, 15, 16, 17] (oi := { dst := some 43, op := Go.Op.load 22 (Go.Operand.tmp 42), type := 22, pos := "low.go:339", after := #[{ on := 0, ground := Go.Ground.data }], guard := none }) rfl (by kernel_rfl) (by kernel_rfl) (by kernel_rfl) (by kernel_rfl) (fun _ _ _ h => h) (Or.inl ⟨by rfl, ?_⟩) hHeld ?_
              rotate_left
              · intro wS hSw
                obtain ⟨s1, ⟨s2, s3, s5⟩, s4⟩ := hSw
                obtain ⟨x0, x1, x2, x3, x4, -⟩ := s1.c
                obtain ⟨y0, y1, y2, y3, y4, -⟩ := s2.c
                obtain ⟨z0, z1, z2, z3, z4, -⟩ := s3.c
                have e0 := cell_bel s4 G0.out
                have e1 := cell_bel s4 G1.out
                have e2 := cell_bel s4 G2.out
                have e3 := cell_bel s4 G3.out
                have e4 := cell_bel s4 G4.out
                go_simp
                all_goals with_reducible rfl
              simp only [Act.put, List.setIfInBounds_toArray, List.set_cons_zero, List.set_cons_succ]
              refine wpAnyT_take (i := 2) (v := ?_) [3, 4, 13, 14, 15, 16, 17] (oi := { dst := some 44, op := Go.Op.move (Go.Operand.tmp 10), type := 9, pos := "low.go:339", after := #[], guard := none }) rfl (by kernel_rfl) (by kernel_rfl) (by kernel_rfl) (by kernel_rfl) (fun _ _ _ h => h) (Or.inl ⟨by rfl, ?_⟩) hHeld ?_
              rotate_left
              · intro wS hSw
                go_simp
                all_goals with_reducible rfl
              simp only [Act.put, List.setIfInBounds_toArray, List.set_cons_zero, List.set_cons_succ]
              refine wpAnyT_take (i := 5) (v := ?_) [6, 13, 14, 15, 16, 17] (oi := { dst := some 47, op := Go.Op.fieldAddr 25 (Go.Operand.tmp 7) 4, type := 0, pos := "low.go:339", after := #[], guard := none }) rfl (by kernel_rfl) (by kernel_rfl) (by kernel_rfl) (by kernel_rfl) (fun _ _ _ h => h) (Or.inl ⟨by rfl, ?_⟩) hHeld ?_
              rotate_left
              · intro wS hSw
                go_simp
                all_goals with_reducible rfl
              simp only [Act.put, List.setIfInBounds_toArray, List.set_cons_zero, List.set_cons_succ]
              refine wpAnyT_take (i := 6) (v := ?_) [13, 14, 15, 16, 17] (oi := { dst := some 48, op := Go.Op.load 23 (Go.Operand.tmp 47), type := 23, pos := "low.go:339", after := #[{ on := 5, ground := Go.Ground.data }], guard := none }) rfl (by kernel_rfl) (by kernel_rfl) (by kernel_rfl) (by kernel_rfl) (fun _ _ _ h => h) (Or.inl ⟨by rfl, ?_⟩) hHeld ?_
              rotate_left
              · intro wS hSw
                obtain ⟨s1, ⟨s2, s3, s5⟩, s4⟩ := hSw
                obtain ⟨x0, x1, x2, x3, x4, -⟩ := s1.c
                obtain ⟨y0, y1, y2, y3, y4, -⟩ := s2.c
                obtain ⟨z0, z1, z2, z3, z4, -⟩ := s3.c
                have e0 := cell_bel s4 G0.out
                have e1 := cell_bel s4 G1.out
                have e2 := cell_bel s4 G2.out
                have e3 := cell_bel s4 G3.out
                have e4 := cell_bel s4 G4.out
                go_simp
                all_goals with_reducible rfl
              simp only [Act.put, List.setIfInBounds_toArray, List.set_cons_zero, List.set_cons_succ]
              refine wpAnyT_take (i := 7) (v := ?_) [8, 10, 11, 12, 13, 15, 16, 17] (oi := { dst := some 49, op := Go.Op.fieldAddr 25 (Go.Operand.tmp 3) 4, type := 0, pos := "low.go:339", after := #[], guard := none }) rfl (by kernel_rfl) (by kernel_rfl) (by kernel_rfl) (by kernel_rfl) (fun _ _ _ h => h) (Or.inl ⟨by rfl, ?_⟩) hHeld ?_
              rotate_left
              · intro wS hSw
                go_simp
                all_goals with_reducible rfl
              simp only [Act.put, List.setIfInBounds_toArray, List.set_cons_zero, List.set_cons_succ]
              refine wpAnyT_take (i := 8) (v := ?_) [10, 11, 12, 13, 15, 16, 17] (oi := { dst := some 50, op := Go.Op.load 23 (Go.Operand.tmp 49), type := 23, pos := "low.go:339", after := #[{ on := 7, ground := Go.Ground.data }], guard := none }) rfl (by kernel_rfl) (by kernel_rfl) (by kernel_rfl) (by kernel_rfl) (fun _ _ _ h => h) (Or.inl ⟨by rfl, ?_⟩) hHeld ?_
              rotate_left
              · intro wS hSw
                obtain ⟨s1, ⟨s2, s3, s5⟩, s4⟩ := hSw
                obtain ⟨x0, x1, x2, x3, x4, -⟩ := s1.c
                obtain ⟨y0, y1, y2, y3, y4, -⟩ := s2.c
                obtain ⟨z0, z1, z2, z3, z4, -⟩ := s3.c
                have e0 := cell_bel s4 G0.out
                have e1 := cell_bel s4 G1.out
                have e2 := cell_bel s4 G2.out
                have e3 := cell_bel s4 G3.out
                have e4 := cell_bel s4 G4.out
                go_simp
                all_goals with_reducible rfl
              simp only [Act.put, List.setIfInBounds_toArray, List.set_cons_zero, List.set_cons_succ]
              refine wpAnyT_take (i := 9) (v := ?_) [10, 11, 12, 13, 15, 16, 17] (oi := { dst := some 51, op := Go.Op.move (Go.Operand.tmp 9), type := 3, pos := "low.go:339", after := #[], guard := none }) rfl (by kernel_rfl) (by kernel_rfl) (by kernel_rfl) (by kernel_rfl) (fun _ _ _ h => h) (Or.inl ⟨by rfl, ?_⟩) hHeld ?_
              rotate_left
              · intro wS hSw
                go_simp
                all_goals with_reducible rfl
              simp only [Act.put, List.setIfInBounds_toArray, List.set_cons_zero, List.set_cons_succ]
              refine wpAnyT_take (i := 10) (v := ?_) [11, 12, 13, 15, 16, 17] (oi := { dst := some 52, op := Go.Op.indexAddr 23 (Go.Operand.tmp 50) (Go.Operand.tmp 51), type := 0, pos := "low.go:339", after := #[{ on := 8, ground := Go.Ground.data }, { on := 9, ground := Go.Ground.data }], guard := none }) rfl (by kernel_rfl) (by kernel_rfl) (by kernel_rfl) (by kernel_rfl) (fun _ _ _ h => h) (Or.inl ⟨by rfl, ?_⟩) hHeld ?_
              rotate_left
              · intro wS hSw
                go_simp
                all_goals with_reducible rfl
              simp only [Act.put, List.setIfInBounds_toArray, List.set_cons_zero, List.set_cons_succ]
              refine wpAnyT_take (i := 11) (v := ?_) [12, 13, 15, 16, 17] (oi := { dst := some 53, op := Go.Op.load 25 (Go.Operand.tmp 52), type := 25, pos := "low.go:339", after := #[{ on := 10, ground := Go.Ground.data }], guard := none }) rfl (by kernel_rfl) (by kernel_rfl) (by kernel_rfl) (by kernel_rfl) (fun _ _ _ h => h) (Or.inl ⟨by rfl, ?_⟩) hHeld ?_
              rotate_left
              · intro wS hSw
                obtain ⟨s1, ⟨s2, s3, s5⟩, s4⟩ := hSw
                obtain ⟨x0, x1, x2, x3, x4, -⟩ := s1.c
                obtain ⟨y0, y1, y2, y3, y4, -⟩ := s2.c
                obtain ⟨z0, z1, z2, z3, z4, -⟩ := s3.c
                have e0 := cell_bel s4 G0.out
                have e1 := cell_bel s4 G1.out
                have e2 := cell_bel s4 G2.out
                have e3 := cell_bel s4 G3.out
                have e4 := cell_bel s4 G4.out
                go_simp
                all_goals with_reducible rfl
              simp only [Act.put, List.setIfInBounds_toArray, List.set_cons_zero, List.set_cons_succ]
              refine wpAnyT_ready (rs := [3, 12]) (by kernel_rfl) (by simp) ?_
              refine AllReadyT.cons (i := 3) (o := { dst := some 45, op := Go.Op.buildSlice 22 1 #[(0, Go.Operand.tmp 44)], type := 22, pos := "low.go:339", after := #[{ on := 2, ground := Go.Ground.data }], guard := none }) rfl (fun K hK => ?_) ?_
              · go_simp
                replace SOc := hidI (SOc.out.alloc HF.out (.cells #[.string ⟨t.keys[k].toArray⟩] 9))
                replace OEc := hidI (OEc.out.bel (bel_alloc _ (.cells #[.string ⟨t.keys[k].toArray⟩] 9)))
                replace hBc := Nat.le_trans hBc (bel_alloc _ (.cells #[.string ⟨t.keys[k].toArray⟩] 9)).size
                have NBK : Hid ((wc.alloc (.cells #[.string ⟨t.keys[k].toArray⟩] 9)).heap[wc.heap.size]? = some (.cells #[.string ⟨t.keys[k].toArray⟩] 9)) := hidI (heap_alloc_new _ _)
                refine hK.out _ _ (SOc.out.drew HF.out) (fun hHeld2 => ?_)
                clear hK K
                replace hHeld := hHeld2
                clear hHeld2
                try simp only [Act.put, List.setIfInBounds_toArray, List.set_cons_zero, List.set_cons_succ]
                refine wpAnyT_ready (rs := [4, 12]) (by kernel_rfl) (by simp) ?_
                refine AllReadyT.cons (i := 4) (o := { dst := some 46, op := Go.Op.call { callee := Go.Callee.builtin Go.Builtin.append, args := #[Go.Operand.tmp 43, Go.Operand.tmp 45], argTypes := #[22, 22] }, type := 22, pos := "low.go:339", after := #[{ on := 1, ground := Go.Ground.data }, { on := 3, ground := Go.Ground.data }], guard := none }) rfl (fun K hK => ?_) ?_
                · have OEd := hidI OEc.out.drew
                  have NBd : Hid (((wc.alloc (.cells #[.string ⟨t.keys[k].toArray⟩] 9)).drew).heap[wc.heap.size]? = some (.cells #[.string ⟨t.keys[k].toArray⟩] 9)) := hidI NBK.out
                  refine step_run (by rfl) (.tmp 43) (.tmp 45) 22 (by rfl) _ _ rfl rfl _ (fun ty => OEd.out.key NBd.out hnk (by exact hBc) ty) (fun v9 W9 hR => ?_)
                  obtain ⟨ho9, hg9, gK, cK, rfl⟩ := hR
                  replace SOc := hidI (hHeld.grown HF.out hg9 (fun g e => (OEd.out.kown g e).1))
                  refine hK.out _ _ SOc.out (fun hHeld2 => ?_)
                  replace OEc := hidI ho9
                  replace hBc := Nat.le_trans (by exact hBc) hg9.size
                  clear ho9 hg9 OEd NBd
                  clear hK K
                  replace hHeld := hHeld2
                  clear hHeld2
                  try simp only [Act.put, List.setIfInBounds_toArray, List.set_cons_zero, List.set_cons_succ]
                  refine wpAnyT_take (i := 14) (v := ?_) [15, 16, 17] (oi := { dst := some 56, op := Go.Op.fieldAddr 25 (Go.Operand.tmp 7) 3, type := 0, pos := "low.go:339", after := #[{ on := 0, ground := Go.Ground.phase }, { on := 1, ground := Go.Ground.phase }, { on := 2, ground := Go.Ground.phase }, { on := 3, ground := Go.Ground.phase }, { on := 4, ground := Go.Ground.phase }, { on := 5, ground := Go.Ground.phase }, { on := 6, ground := Go.Ground.phase }, { on := 7, ground := Go.Ground.textOnly Go.Departure.lateStores }, { on := 8, ground := Go.Ground.textOnly Go.Departure.lateStores }, { on := 9, ground := Go.Ground.textOnly Go.Departure.lateStores }, { on := 10, ground := Go.Ground.textOnly Go.Departure.lateStores }, { on := 11, ground := Go.Ground.textOnly Go.Departure.lateStores }, { on := 12, ground := Go.Ground.textOnly Go.Departure.lateStores }, { on := 13, ground := Go.Ground.textOnly Go.Departure.lateStoresUnsure }], guard := none }) rfl (by kernel_rfl) (by kernel_rfl) (by kernel_rfl) (by kernel_rfl) (fun _ _ _ h => h) (Or.inl ⟨by rfl, ?_⟩) hHeld ?_
                  rotate_left
                  · intro wS hSw
                    go_simp
                    all_goals with_reducible rfl
                  simp only [Act.put, List.setIfInBounds_toArray, List.set_cons_zero, List.set_cons_succ]
                  refine wpAnyT_ready (rs := [12]) (by kernel_rfl) (by simp) ?_
                  refine AllReadyT.cons (i := 12) (o := { dst := some 54, op := Go.Op.buildSlice 23 1 #[(0, Go.Operand.tmp 53)], type := 23, pos := "low.go:339", after := #[{ on := 11, ground := Go.Ground.data }], guard := none }) rfl (fun K hK => ?_) ?_
                  · go_simp
                    replace SOc := hidI (SOc.out.alloc HF.out (.cells #[.int .i64 t.l[k].kind, .int .i64 t.l[k].n, .string ⟨t.l[k].s.toArray⟩, .slice a5 t.l[k].keys.length c5, .slice a6 t.l[k].l.length c6] 25))
                    replace OEc := hidI (OEc.out.bel (bel_alloc _ (.cells #[.int .i64 t.l[k].kind, .int .i64 t.l[k].n, .string ⟨t.l[k].s.toArray⟩, .slice a5 t.l[k].keys.length c5, .slice a6 t.l[k].l.length c6] 25)))
                    replace hBc := Nat.le_trans hBc (bel_alloc _ (.cells #[.int .i64 t.l[k].kind, .int .i64 t.l[k].n, .string ⟨t.l[k].s.toArray⟩, .slice a5 t.l[k].keys.length c5, .slice a6 t.l[k].l.length c6] 25)).size
                    have NBV : Hid ((W9.alloc (.cells #[.int .i64 t.l[k].kind, .int .i64 t.l[k].n, .string ⟨t.l[k].s.toArray⟩, .slice a5 t.l[k].keys.length c5, .slice a6 t.l[k].l.length c6] 25)).heap[W9.heap.size]? = some (.cells #[.int .i64 t.l[k].kind, .int .i64 t.l[k].n, .string ⟨t.l[k].s.toArray⟩, .slice a5 t.l[k].keys.length c5, .slice a6 t.l[k].l.length c6] 25)) := hidI (heap_alloc_new _ _)
                    refine hK.out _ _ (SOc.out) (fun hHeld2 => ?_)
                    clear hK K
                    replace hHeld := hHeld2
                    clear hHeld2
                    try simp only [Act.put, List.setIfInBounds_toArray, List.set_cons_zero, List.set_cons_succ]
                    refine wpAnyT_ready (rs := [13]) (by kernel_rfl) (by simp) ?_
                    refine AllReadyT.cons (i := 13) (o := { dst := some 55, op := Go.Op.call { callee := Go.Callee.builtin Go.Builtin.append, args := #[Go.Operand.tmp 48, Go.Operand.tmp 54], argTypes := #[23, 23] }, type := 23, pos := "low.go:339", after := #[{ on := 6, ground := Go.Ground.data }, { on := 12, ground := Go.Ground.data }, { on := 4, ground := Go.Ground.chain }], guard := none }) rfl (fun K hK => ?_) ?_
                    · have OEd := hidI OEc.out
                      have HY2 := hidI (HY.out.bel OEd.out.below)
                      have NBd := hidI NBV.out
                      refine step_run (by rfl) (.tmp 48) (.tmp 54) 23 (by rfl) _ _ rfl rfl _ (fun ty => OEd.out.item NBd.out HY2.out hnl (by exact hBc) ty) (fun v9 W9 hR => ?_)
                      obtain ⟨ho9, hg9, gV, cV, rfl⟩ := hR
                      replace SOc := hidI (hHeld.grown HF.out hg9 (fun g e => (OEd.out.lown g e).1))
                      refine hK.out _ _ SOc.out (fun hHeld2 => ?_)
                      replace OEc := hidI ho9
                      replace hBc := Nat.le_trans (by exact hBc) hg9.size
                      clear ho9 hg9 OEd NBd
                      clear hK K
                      replace hHeld := hHeld2
                      clear hHeld2
                      try simp only [Act.put, List.setIfInBounds_toArray, List.set_cons_zero, List.set_cons_succ]
                      obtain ⟨o0, o1, o2, o3, o4, f0, f1, f2, f3, f4⟩ := hHeld.1.c
                      have HE := hidI hHeld
                      clear hHeld
                      refine wpAnyT_last (i := 15) (o := { dst := none, op := Go.Op.store 22 (Go.Operand.tmp 56) (Go.Operand.tmp 46), type := 0, pos := "low.go:339", after := #[{ on := 14, ground := Go.Ground.data }, { on := 4, ground := Go.Ground.data }, { on := 13, ground := Go.Ground.chain }, { on := 0, ground := Go.Ground.phase }, { on := 1, ground := Go.Ground.phase }, { on := 2, ground := Go.Ground.phase }, { on := 3, ground := Go.Ground.phase }, { on := 4, ground := Go.Ground.phase }, { on := 5, ground := Go.Ground.phase }, { on := 6, ground := Go.Ground.phase }, { on := 7, ground := Go.Ground.textOnly Go.Departure.lateStores }, { on := 8, ground := Go.Ground.textOnly Go.Departure.lateStores }, { on := 9, ground := Go.Ground.textOnly Go.Departure.lateStores }, { on := 10, ground := Go.Ground.textOnly Go.Departure.lateStores }, { on := 11, ground := Go.Ground.textOnly Go.Departure.lateStores }, { on := 12, ground := Go.Ground.textOnly Go.Departure.lateStores }, { on := 13, ground := Go.Ground.textOnly Go.Departure.lateStoresUnsure }], guard := none }) (by kernel_rfl) (by rfl) rfl (fun K hK => ?_)
                      go_simp
                      refine hK.out _ _ ?_
                      clear hK K
                      try simp only [Act.put, List.setIfInBounds_toArray, List.set_cons_zero, List.set_cons_succ]
                      refine wpAnyT_last (i := 16) (o := { dst := some 57, op := Go.Op.fieldAddr 25 (Go.Operand.tmp 7) 4, type := 0, pos := "low.go:339", after := #[{ on := 0, ground := Go.Ground.phase }, { on := 1, ground := Go.Ground.phase }, { on := 2, ground := Go.Ground.phase }, { on := 3, ground := Go.Ground.phase }, { on := 4, ground := Go.Ground.phase }, { on := 5, ground := Go.Ground.phase }, { on := 6, ground := Go.Ground.phase }, { on := 7, ground := Go.Ground.phase }, { on := 8, ground := Go.Ground.phase }, { on := 9, ground := Go.Ground.phase }, { on := 10, ground := Go.Ground.phase }, { on := 11, ground := Go.Ground.phase }, { on := 12, ground := Go.Ground.phase }, { on := 13, ground := Go.Ground.phase }, { on := 14, ground := Go.Ground.phase }, { on := 15, ground := Go.Ground.phase }], guard := none }) (by kernel_rfl) (by rfl) rfl (fun K hK => ?_)
                      go_simp
                      refine hK.out _ _ ?_
                      clear hK K
                      try simp only [Act.put, List.setIfInBounds_toArray, List.set_cons_zero, List.set_cons_succ]
                      refine wpAnyT_last (i := 17) (o := { dst := none, op := Go.Op.store 23 (Go.Operand.tmp 57) (Go.Operand.tmp 55), type := 0, pos := "low.go:339", after := #[{ on := 16, ground := Go.Ground.data }, { on := 13, ground := Go.Ground.data }, { on := 15, ground := Go.Ground.chain }, { on := 0, ground := Go.Ground.phase }, { on := 1, ground := Go.Ground.phase }, { on := 2, ground := Go.Ground.phase }, { on := 3, ground := Go.Ground.phase }, { on := 4, ground := Go.Ground.phase }, { on := 5, ground := Go.Ground.phase }, { on := 6, ground := Go.Ground.phase }, { on := 7, ground := Go.Ground.phase }, { on := 8, ground := Go.Ground.phase }, { on := 9, ground := Go.Ground.phase }, { on := 10, ground := Go.Ground.phase }, { on := 11, ground := Go.Ground.phase }, { on := 12, ground := Go.Ground.phase }, { on := 13, ground := Go.Ground.phase }, { on := 14, ground := Go.Ground.phase }, { on := 15, ground := Go.Ground.phase }], guard := none }) (by kernel_rfl) (by rfl) rfl (fun K hK => ?_)
                      go_simp
                      refine hK.out _ _ ?_
                      clear hK K
                      try simp only [Act.put, List.setIfInBounds_toArray, List.set_cons_zero, List.set_cons_succ]
                      refine wpAnyT_done (by kernel_rfl) ?_ _
                      go_wp2_with fail
                      go_roundg (t.keys.length - (k + 1))
                      case measure => rw [GK.out]; omega
                      case rel => exact ⟨k + 1, b, hlt, rfl, by go_num, rfl, wm_item hlt hlt' HNE.out HBL.out HPS.out HE.out (by have h9 := OEc.out; simp only [List.length_map] at h9; exact h9)⟩
                    exact AllReadyT.nil
                  exact AllReadyT.nil
                refine AllReadyT.cons (i := 12) (o := { dst := some 54, op := Go.Op.buildSlice 23 1 #[(0, Go.Operand.tmp 53)], type := 23, pos := "low.go:339", after := #[{ on := 11, ground := Go.Ground.data }], guard := none }) rfl (fun K hK => ?_) ?_
                · go_simp
                  replace SOc := hidI (SOc.out.alloc HF.out (.cells #[.int .i64 t.l[k].kind, .int .i64 t.l[k].n, .string ⟨t.l[k].s.toArray⟩, .slice a5 t.l[k].keys.length c5, .slice a6 t.l[k].l.length c6] 25))
                  replace OEc := hidI (OEc.out.bel (bel_alloc _ (.cells #[.int .i64 t.l[k].kind, .int .i64 t.l[k].n, .string ⟨t.l[k].s.toArray⟩, .slice a5 t.l[k].keys.length c5, .slice a6 t.l[k].l.length c6] 25)))
                  replace hBc := Nat.le_trans hBc (bel_alloc _ (.cells #[.int .i64 t.l[k].kind, .int .i64 t.l[k].n, .string ⟨t.l[k].s.toArray⟩, .slice a5 t.l[k].keys.length c5, .slice a6 t.l[k].l.length c6] 25)).size
                  clear NBK
                  have NBK : Hid (((wc.alloc (.cells #[.string ⟨t.keys[k].toArray⟩] 9)).alloc (.cells #[.int .i64 t.l[k].kind, .int .i64 t.l[k].n, .string ⟨t.l[k].s.toArray⟩, .slice a5 t.l[k].keys.length c5, .slice a6 t.l[k].l.length c6] 25)).heap[wc.heap.size]? = some (.cells #[.string ⟨t.keys[k].toArray⟩] 9)) := hidI (h2a _ _ _)
                  have NBV : Hid (((wc.alloc (.cells #[.string ⟨t.keys[k].toArray⟩] 9)).alloc (.cells #[.int .i64 t.l[k].kind, .int .i64 t.l[k].n, .string ⟨t.l[k].s.toArray⟩, .slice a5 t.l[k].keys.length c5, .slice a6 t.l[k].l.length c6] 25)).heap[wc.heap.size + 1]? = some (.cells #[.int .i64 t.l[k].kind, .int .i64 t.l[k].n, .string ⟨t.l[k].s.toArray⟩, .slice a5 t.l[k].keys.length c5, .slice a6 t.l[k].l.length c6] 25)) := hidI (h2b _ _ _)
                  refine hK.out _ _ (SOc.out.drew HF.out) (fun hHeld2 => ?_)
                  clear hK K
                  replace hHeld := hHeld2
                  clear hHeld2
                  try simp only [Act.put, List.setIfInBounds_toArray, List.set_cons_zero, List.set_cons_succ]
                  refine wpAnyT_ready (rs := [4]) (by kernel_rfl) (by simp) ?_
                  refine AllReadyT.cons (i := 4) (o := { dst := some 46, op := Go.Op.call { callee := Go.Callee.builtin Go.Builtin.append, args := #[Go.Operand.tmp 43, Go.Operand.tmp 45], argTypes := #[22, 22] }, type := 22, pos := "low.go:339", after := #[{ on := 1, ground := Go.Ground.data }, { on := 3, ground := Go.Ground.data }], guard := none }) rfl (fun K hK => ?_) ?_
                  · have OEd := hidI OEc.out.drew
                    have NBd : Hid ((((wc.alloc (.cells #[.string ⟨t.keys[k].toArray⟩] 9)).alloc (.cells #[.int .i64 t.l[k].kind, .int .i64 t.l[k].n, .string ⟨t.l[k].s.toArray⟩, .slice a5 t.l[k].keys.length c5, .slice a6 t.l[k].l.length c6] 25)).drew).heap[wc.heap.size]? = some (.cells #[.string ⟨t.keys[k].toArray⟩] 9)) := hidI NBK.out
                    refine step_run (by rfl) (.tmp 43) (.tmp 45) 22 (by rfl) _ _ rfl rfl _ (fun ty => OEd.out.key NBd.out hnk (by exact hBc) ty) (fun v9 W9 hR => ?_)
                    obtain ⟨ho9, hg9, gK, cK, rfl⟩ := hR
                    replace SOc := hidI (hHeld.grown HF.out hg9 (fun g e => (OEd.out.kown g e).1))
                    refine hK.out _ _ SOc.out (fun hHeld2 => ?_)
                    replace NBV := hidI (nb_grown ((by exact NBV.out : (((wc.alloc (.cells #[.string ⟨t.keys[k].toArray⟩] 9)).alloc (.cells #[.int .i64 t.l[k].kind, .int .i64 t.l[k].n, .string ⟨t.l[k].s.toArray⟩, .slice a5 t.l[k].keys.length c5, .slice a6 t.l[k].l.length c6] 25)).drew).heap[wc.heap.size + 1]? = some (.cells #[.int .i64 t.l[k].kind, .int .i64 t.l[k].n, .string ⟨t.l[k].s.toArray⟩, .slice a5 t.l[k].keys.length c5, .slice a6 t.l[k].l.length c6] 25))) hg9 (fun e => by have := LK.out _ e.symm; omega))
                    replace OEc := hidI ho9
                    replace hBc := Nat.le_trans (by exact hBc) hg9.size
                    clear ho9 hg9 OEd NBd
                    clear hK K
                    replace hHeld := hHeld2
                    clear hHeld2
                    try simp only [Act.put, List.setIfInBounds_toArray, List.set_cons_zero, List.set_cons_succ]
                    refine wpAnyT_take (i := 14) (v := ?_) [15, 16, 17] (oi := { dst := some 56, op := Go.Op.fieldAddr 25 (Go.Operand.tmp 7) 3, type := 0, pos := "low.go:339", after := #[{ on := 0, ground := Go.Ground.phase }, { on := 1, ground := Go.Ground.phase }, { on := 2, ground := Go.Ground.phase }, { on := 3, ground := Go.Ground.phase }, { on := 4, ground := Go.Ground.phase }, { on := 5, ground := Go.Ground.phase }, { on := 6, ground := Go.Ground.phase }, { on := 7, ground := Go.Ground.textOnly Go.Departure.lateStores }, { on := 8, ground := Go.Ground.textOnly Go.Departure.lateStores }, { on := 9, ground := Go.Ground.textOnly Go.Departure.lateStores }, { on := 10, ground := Go.Ground.textOnly Go.Departure.lateStores }, { on := 11, ground := Go.Ground.textOnly Go.Departure.lateStores }, { on := 12, ground := Go.Ground.textOnly Go.Departure.lateStores }, { on := 13, ground := Go.Ground.textOnly Go.Departure.lateStoresUnsure }], guard := none }) rfl (by kernel_rfl) (by kernel_rfl) (by kernel_rfl) (by kernel_rfl) (fun _ _ _ h => h) (Or.inl ⟨by rfl, ?_⟩) hHeld ?_
                    rotate_left
                    · intro wS hSw
                      go_simp
                      all_goals with_reducible rfl
                    simp only [Act.put, List.setIfInBounds_toArray, List.set_cons_zero, List.set_cons_succ]
                    refine wpAnyT_ready (rs := [13]) (by kernel_rfl) (by simp) ?_
                    refine AllReadyT.cons (i := 13) (o := { dst := some 55, op := Go.Op.call { callee := Go.Callee.builtin Go.Builtin.append, args := #[Go.Operand.tmp 48, Go.Operand.tmp 54], argTypes := #[23, 23] }, type := 23, pos := "low.go:339", after := #[{ on := 6, ground := Go.Ground.data }, { on := 12, ground := Go.Ground.data }, { on := 4, ground := Go.Ground.chain }], guard := none }) rfl (fun K hK => ?_) ?_
                    · have OEd := hidI OEc.out
                      have HY2 := hidI (HY.out.bel OEd.out.below)
                      have NBd := hidI NBV.out
                      refine step_run (by rfl) (.tmp 48) (.tmp 54) 23 (by rfl) _ _ rfl rfl _ (fun ty => OEd.out.item NBd.out HY2.out hnl (by exact hBc) ty) (fun v9 W9 hR => ?_)
                      obtain ⟨ho9, hg9, gV, cV, rfl⟩ := hR
                      replace SOc := hidI (hHeld.grown HF.out hg9 (fun g e => (OEd.out.lown g e).1))
                      refine hK.out _ _ SOc.out (fun hHeld2 => ?_)
                      replace OEc := hidI ho9
                      replace hBc := Nat.le_trans (by exact hBc) hg9.size
                      clear ho9 hg9 OEd NBd
                      clear hK K
                      replace hHeld := hHeld2
                      clear hHeld2
                      try simp only [Act.put, List.setIfInBounds_toArray, List.set_cons_zero, List.set_cons_succ]
                      obtain ⟨o0, o1, o2, o3, o4, f0, f1, f2, f3, f4⟩ := hHeld.1.c
                      have HE := hidI hHeld
                      clear hHeld
                      refine wpAnyT_last (i := 15) (o := { dst := none, op := Go.Op.store 22 (Go.Operand.tmp 56) (Go.Operand.tmp 46), type := 0, pos := "low.go:339", after := #[{ on := 14, ground := Go.Ground.data }, { on := 4, ground := Go.Ground.data }, { on := 13, ground := Go.Ground.chain }, { on := 0, ground := Go.Ground.phase }, { on := 1, ground := Go.Ground.phase }, { on := 2, ground := Go.Ground.phase }, { on := 3, ground := Go.Ground.phase }, { on := 4, ground := Go.Ground.phase }, { on := 5, ground := Go.Ground.phase }, { on := 6, ground := Go.Ground.phase }, { on := 7, ground := Go.Ground.textOnly Go.Departure.lateStores }, { on := 8, ground := Go.Ground.textOnly Go.Departure.lateStores }, { on := 9, ground := Go.Ground.textOnly Go.Departure.lateStores }, { on := 10, ground := Go.Ground.textOnly Go.Departure.lateStores }, { on := 11, ground := Go.Ground.textOnly Go.Departure.lateStores }, { on := 12, ground := Go.Ground.textOnly Go.Departure.lateStores }, { on := 13, ground := Go.Ground.textOnly Go.Departure.lateStoresUnsure }], guard := none }) (by kernel_rfl) (by rfl) rfl (fun K hK => ?_)
                      go_simp
                      refine hK.out _ _ ?_
                      clear hK K
                      try simp only [Act.put, List.setIfInBounds_toArray, List.set_cons_zero, List.set_cons_succ]
                      refine wpAnyT_last (i := 16) (o := { dst := some 57, op := Go.Op.fieldAddr 25 (Go.Operand.tmp 7) 4, type := 0, pos := "low.go:339", after := #[{ on := 0, ground := Go.Ground.phase }, { on := 1, ground := Go.Ground.phase }, { on := 2, ground := Go.Ground.phase }, { on := 3, ground := Go.Ground.phase }, { on := 4, ground := Go.Ground.phase }, { on := 5, ground := Go.Ground.phase }, { on := 6, ground := Go.Ground.phase }, { on := 7, ground := Go.Ground.phase }, { on := 8, ground := Go.Ground.phase }, { on := 9, ground := Go.Ground.phase }, { on := 10, ground := Go.Ground.phase }, { on := 11, ground := Go.Ground.phase }, { on := 12, ground := Go.Ground.phase }, { on := 13, ground := Go.Ground.phase }, { on := 14, ground := Go.Ground.phase }, { on := 15, ground := Go.Ground.phase }], guard := none }) (by kernel_rfl) (by rfl) rfl (fun K hK => ?_)
                      go_simp
                      refine hK.out _ _ ?_
                      clear hK K
                      try simp only [Act.put, List.setIfInBounds_toArray, List.set_cons_zero, List.set_cons_succ]
                      refine wpAnyT_last (i := 17) (o := { dst := none, op := Go.Op.store 23 (Go.Operand.tmp 57) (Go.Operand.tmp 55), type := 0, pos := "low.go:339", after := #[{ on := 16, ground := Go.Ground.data }, { on := 13, ground := Go.Ground.data }, { on := 15, ground := Go.Ground.chain }, { on := 0, ground := Go.Ground.phase }, { on := 1, ground := Go.Ground.phase }, { on := 2, ground := Go.Ground.phase }, { on := 3, ground := Go.Ground.phase }, { on := 4, ground := Go.Ground.phase }, { on := 5, ground := Go.Ground.phase }, { on := 6, ground := Go.Ground.phase }, { on := 7, ground := Go.Ground.phase }, { on := 8, ground := Go.Ground.phase }, { on := 9, ground := Go.Ground.phase }, { on := 10, ground := Go.Ground.phase }, { on := 11, ground := Go.Ground.phase }, { on := 12, ground := Go.Ground.phase }, { on := 13, ground := Go.Ground.phase }, { on := 14, ground := Go.Ground.phase }, { on := 15, ground := Go.Ground.phase }], guard := none }) (by kernel_rfl) (by rfl) rfl (fun K hK => ?_)
                      go_simp
                      refine hK.out _ _ ?_
                      clear hK K
                      try simp only [Act.put, List.setIfInBounds_toArray, List.set_cons_zero, List.set_cons_succ]
                      refine wpAnyT_done (by kernel_rfl) ?_ _
                      go_wp2_with fail
                      go_roundg (t.keys.length - (k + 1))
                      case measure => rw [GK.out]; omega
                      case rel => exact ⟨k + 1, b, hlt, rfl, by go_num, rfl, wm_item hlt hlt' HNE.out HBL.out HPS.out HE.out (by have h9 := OEc.out; simp only [List.length_map] at h9; exact h9)⟩
                    exact AllReadyT.nil
                  exact AllReadyT.nil
                exact AllReadyT.nil
              refine AllReadyT.cons (i := 12) (o := { dst := some 54, op := Go.Op.buildSlice 23 1 #[(0, Go.Operand.tmp 53)], type := 23, pos := "low.go:339", after := #[{ on := 11, ground := Go.Ground.data }], guard := none }) rfl (fun K hK => ?_) ?_
              · go_simp
                replace SOc := hidI (SOc.out.alloc HF.out (.cells #[.int .i64 t.l[k].kind, .int .i64 t.l[k].n, .string ⟨t.l[k].s.toArray⟩, .slice a5 t.l[k].keys.length c5, .slice a6 t.l[k].l.length c6] 25))
                replace OEc := hidI (OEc.out.bel (bel_alloc _ (.cells #[.int .i64 t.l[k].kind, .int .i64 t.l[k].n, .string ⟨t.l[k].s.toArray⟩, .slice a5 t.l[k].keys.length c5, .slice a6 t.l[k].l.length c6] 25)))
                replace hBc := Nat.le_trans hBc (bel_alloc _ (.cells #[.int .i64 t.l[k].kind, .int .i64 t.l[k].n, .string ⟨t.l[k].s.toArray⟩, .slice a5 t.l[k].keys.length c5, .slice a6 t.l[k].l.length c6] 25)).size
                have NBV : Hid ((wc.alloc (.cells #[.int .i64 t.l[k].kind, .int .i64 t.l[k].n, .string ⟨t.l[k].s.toArray⟩, .slice a5 t.l[k].keys.length c5, .slice a6 t.l[k].l.length c6] 25)).heap[wc.heap.size]? = some (.cells #[.int .i64 t.l[k].kind, .int .i64 t.l[k].n, .string ⟨t.l[k].s.toArray⟩, .slice a5 t.l[k].keys.length c5, .slice a6 t.l[k].l.length c6] 25)) := hidI (heap_alloc_new _ _)
                refine hK.out _ _ (SOc.out.drew HF.out) (fun hHeld2 => ?_)
                clear hK K
                replace hHeld := hHeld2
                clear hHeld2
                try simp only [Act.put, List.setIfInBounds_toArray, List.set_cons_zero, List.set_cons_succ]
                refine wpAnyT_ready (rs := [3]) (by kernel_rfl) (by simp) ?_
                refine AllReadyT.cons (i := 3) (o := { dst := some 45, op := Go.Op.buildSlice 22 1 #[(0, Go.Operand.tmp 44)], type := 22, pos := "low.go:339", after := #[{ on := 2, ground := Go.Ground.data }], guard := none }) rfl (fun K hK => ?_) ?_
                · go_simp
                  replace SOc := hidI (SOc.out.alloc HF.out (.cells #[.string ⟨t.keys[k].toArray⟩] 9))
                  replace OEc := hidI (OEc.out.bel (bel_alloc _ (.cells #[.string ⟨t.keys[k].toArray⟩] 9)))
                  replace hBc := Nat.le_trans hBc (bel_alloc _ (.cells #[.string ⟨t.keys[k].toArray⟩] 9)).size
                  clear NBV
                  have NBV : Hid (((wc.alloc (.cells #[.int .i64 t.l[k].kind, .int .i64 t.l[k].n, .string ⟨t.l[k].s.toArray⟩, .slice a5 t.l[k].keys.length c5, .slice a6 t.l[k].l.length c6] 25)).alloc (.cells #[.string ⟨t.keys[k].toArray⟩] 9)).heap[wc.heap.size]? = some (.cells #[.int .i64 t.l[k].kind, .int .i64 t.l[k].n, .string ⟨t.l[k].s.toArray⟩, .slice a5 t.l[k].keys.length c5, .slice a6 t.l[k].l.length c6] 25)) := hidI (h2a _ _ _)
                  have NBK : Hid (((wc.alloc (.cells #[.int .i64 t.l[k].kind, .int .i64 t.l[k].n, .string ⟨t.l[k].s.toArray⟩, .slice a5 t.l[k].keys.length c5, .slice a6 t.l[k].l.length c6] 25)).alloc (.cells #[.string ⟨t.keys[k].toArray⟩] 9)).heap[wc.heap.size + 1]? = some (.cells #[.string ⟨t.keys[k].toArray⟩] 9)) := hidI (h2b _ _ _)
                  refine hK.out _ _ (SOc.out.drew HF.out) (fun hHeld2 => ?_)
                  clear hK K
                  replace hHeld := hHeld2
                  clear hHeld2
                  try simp only [Act.put, List.setIfInBounds_toArray, List.set_cons_zero, List.set_cons_succ]
                  refine wpAnyT_ready (rs := [4]) (by kernel_rfl) (by simp) ?_
                  refine AllReadyT.cons (i := 4) (o := { dst := some 46, op := Go.Op.call { callee := Go.Callee.builtin Go.Builtin.append, args := #[Go.Operand.tmp 43, Go.Operand.tmp 45], argTypes := #[22, 22] }, type := 22, pos := "low.go:339", after := #[{ on := 1, ground := Go.Ground.data }, { on := 3, ground := Go.Ground.data }], guard := none }) rfl (fun K hK => ?_) ?_
                  · have OEd := hidI OEc.out.drew
                    have NBd : Hid ((((wc.alloc (.cells #[.int .i64 t.l[k].kind, .int .i64 t.l[k].n, .string ⟨t.l[k].s.toArray⟩, .slice a5 t.l[k].keys.length c5, .slice a6 t.l[k].l.length c6] 25)).alloc (.cells #[.string ⟨t.keys[k].toArray⟩] 9)).drew).heap[wc.heap.size + 1]? = some (.cells #[.string ⟨t.keys[k].toArray⟩] 9)) := hidI NBK.out
                    refine step_run (by rfl) (.tmp 43) (.tmp 45) 22 (by rfl) _ _ rfl rfl _ (fun ty => OEd.out.key NBd.out hnk (by exact hBc) ty) (fun v9 W9 hR => ?_)
                    obtain ⟨ho9, hg9, gK, cK, rfl⟩ := hR
                    replace SOc := hidI (hHeld.grown HF.out hg9 (fun g e => (OEd.out.kown g e).1))
                    refine hK.out _ _ SOc.out (fun hHeld2 => ?_)
                    replace NBV := hidI (nb_grown ((by exact NBV.out : (((wc.alloc (.cells #[.int .i64 t.l[k].kind, .int .i64 t.l[k].n, .string ⟨t.l[k].s.toArray⟩, .slice a5 t.l[k].keys.length c5, .slice a6 t.l[k].l.length c6] 25)).alloc (.cells #[.string ⟨t.keys[k].toArray⟩] 9)).drew).heap[wc.heap.size]? = some (.cells #[.int .i64 t.l[k].kind, .int .i64 t.l[k].n, .string ⟨t.l[k].s.toArray⟩, .slice a5 t.l[k].keys.length c5, .slice a6 t.l[k].l.length c6] 25))) hg9 (fun e => by have := LK.out _ e.symm; omega))
                    replace OEc := hidI ho9
                    replace hBc := Nat.le_trans (by exact hBc) hg9.size
                    clear ho9 hg9 OEd NBd
                    clear hK K
                    replace hHeld := hHeld2
                    clear hHeld2
                    try simp only [Act.put, List.setIfInBounds_toArray, List.set_cons_zero, List.set_cons_succ]
                    refine wpAnyT_take (i := 14) (v := ?_) [15, 16, 17] (oi := { dst := some 56, op := Go.Op.fieldAddr 25 (Go.Operand.tmp 7) 3, type := 0, pos := "low.go:339", after := #[{ on := 0, ground := Go.Ground.phase }, { on := 1, ground := Go.Ground.phase }, { on := 2, ground := Go.Ground.phase }, { on := 3, ground := Go.Ground.phase }, { on := 4, ground := Go.Ground.phase }, { on := 5, ground := Go.Ground.phase }, { on := 6, ground := Go.Ground.phase }, { on := 7, ground := Go.Ground.textOnly Go.Departure.lateStores }, { on := 8, ground := Go.Ground.textOnly Go.Departure.lateStores }, { on := 9, ground := Go.Ground.textOnly Go.Departure.lateStores }, { on := 10, ground := Go.Ground.textOnly Go.Departure.lateStores }, { on := 11, ground := Go.Ground.textOnly Go.Departure.lateStores }, { on := 12, ground := Go.Ground.textOnly Go.Departure.lateStores }, { on := 13, ground := Go.Ground.textOnly Go.Departure.lateStoresUnsure }], guard := none }) rfl (by kernel_rfl) (by kernel_rfl) (by kernel_rfl) (by kernel_rfl) (fun _ _ _ h => h) (Or.inl ⟨by rfl, ?_⟩) hHeld ?_
                    rotate_left
                    · intro wS hSw
                      go_simp
                      all_goals with_reducible rfl
                    simp only [Act.put, List.setIfInBounds_toArray, List.set_cons_zero, List.set_cons_succ]
                    refine wpAnyT_ready (rs := [13]) (by kernel_rfl) (by simp) ?_
                    refine AllReadyT.cons (i := 13) (o := { dst := some 55, op := Go.Op.call { callee := Go.Callee.builtin Go.Builtin.append, args := #[Go.Operand.tmp 48, Go.Operand.tmp 54], argTypes := #[23, 23] }, type := 23, pos := "low.go:339", after := #[{ on := 6, ground := Go.Ground.data }, { on := 12, ground := Go.Ground.data }, { on := 4, ground := Go.Ground.chain }], guard := none }) rfl (fun K hK => ?_) ?_
                    · have OEd := hidI OEc.out
                      have HY2 := hidI (HY.out.bel OEd.out.below)
                      have NBd := hidI NBV.out
                      refine step_run (by rfl) (.tmp 48) (.tmp 54) 23 (by rfl) _ _ rfl rfl _ (fun ty => OEd.out.item NBd.out HY2.out hnl (by exact hBc) ty) (fun v9 W9 hR => ?_)
                      obtain ⟨ho9, hg9, gV, cV, rfl⟩ := hR
                      replace SOc := hidI (hHeld.grown HF.out hg9 (fun g e => (OEd.out.lown g e).1))
                      refine hK.out _ _ SOc.out (fun hHeld2 => ?_)
                      replace OEc := hidI ho9
                      replace hBc := Nat.le_trans (by exact hBc) hg9.size
                      clear ho9 hg9 OEd NBd
                      clear hK K
                      replace hHeld := hHeld2
                      clear hHeld2
                      try simp only [Act.put, List.setIfInBounds_toArray, List.set_cons_zero, List.set_cons_succ]
                      obtain ⟨o0, o1, o2, o3, o4, f0, f1, f2, f3, f4⟩ := hHeld.1.c
                      have HE := hidI hHeld
                      clear hHeld
                      refine wpAnyT_last (i := 15) (o := { dst := none, op := Go.Op.store 22 (Go.Operand.tmp 56) (Go.Operand.tmp 46), type := 0, pos := "low.go:339", after := #[{ on := 14, ground := Go.Ground.data }, { on := 4, ground := Go.Ground.data }, { on := 13, ground := Go.Ground.chain }, { on := 0, ground := Go.Ground.phase }, { on := 1, ground := Go.Ground.phase }, { on := 2, ground := Go.Ground.phase }, { on := 3, ground := Go.Ground.phase }, { on := 4, ground := Go.Ground.phase }, { on := 5, ground := Go.Ground.phase }, { on := 6, ground := Go.Ground.phase }, { on := 7, ground := Go.Ground.textOnly Go.Departure.lateStores }, { on := 8, ground := Go.Ground.textOnly Go.Departure.lateStores }, { on := 9, ground := Go.Ground.textOnly Go.Departure.lateStores }, { on := 10, ground := Go.Ground.textOnly Go.Departure.lateStores }, { on := 11, ground := Go.Ground.textOnly Go.Departure.lateStores }, { on := 12, ground := Go.Ground.textOnly Go.Departure.lateStores }, { on := 13, ground := Go.Ground.textOnly Go.Departure.lateStoresUnsure }], guard := none }) (by kernel_rfl) (by rfl) rfl (fun K hK => ?_)
                      go_simp
                      refine hK.out _ _ ?_
                      clear hK K
                      try simp only [Act.put, List.setIfInBounds_toArray, List.set_cons_zero, List.set_cons_succ]
                      refine wpAnyT_last (i := 16) (o := { dst := some 57, op := Go.Op.fieldAddr 25 (Go.Operand.tmp 7) 4, type := 0, pos := "low.go:339", after := #[{ on := 0, ground := Go.Ground.phase }, { on := 1, ground := Go.Ground.phase }, { on := 2, ground := Go.Ground.phase }, { on := 3, ground := Go.Ground.phase }, { on := 4, ground := Go.Ground.phase }, { on := 5, ground := Go.Ground.phase }, { on := 6, ground := Go.Ground.phase }, { on := 7, ground := Go.Ground.phase }, { on := 8, ground := Go.Ground.phase }, { on := 9, ground := Go.Ground.phase }, { on := 10, ground := Go.Ground.phase }, { on := 11, ground := Go.Ground.phase }, { on := 12, ground := Go.Ground.phase }, { on := 13, ground := Go.Ground.phase }, { on := 14, ground := Go.Ground.phase }, { on := 15, ground := Go.Ground.phase }], guard := none }) (by kernel_rfl) (by rfl) rfl (fun K hK => ?_)
                      go_simp
                      refine hK.out _ _ ?_
                      clear hK K
                      try simp only [Act.put, List.setIfInBounds_toArray, List.set_cons_zero, List.set_cons_succ]
                      refine wpAnyT_last (i := 17) (o := { dst := none, op := Go.Op.store 23 (Go.Operand.tmp 57) (Go.Operand.tmp 55), type := 0, pos := "low.go:339", after := #[{ on := 16, ground := Go.Ground.data }, { on := 13, ground := Go.Ground.data }, { on := 15, ground := Go.Ground.chain }, { on := 0, ground := Go.Ground.phase }, { on := 1, ground := Go.Ground.phase }, { on := 2, ground := Go.Ground.phase }, { on := 3, ground := Go.Ground.phase }, { on := 4, ground := Go.Ground.phase }, { on := 5, ground := Go.Ground.phase }, { on := 6, ground := Go.Ground.phase }, { on := 7, ground := Go.Ground.phase }, { on := 8, ground := Go.Ground.phase }, { on := 9, ground := Go.Ground.phase }, { on := 10, ground := Go.Ground.phase }, { on := 11, ground := Go.Ground.phase }, { on := 12, ground := Go.Ground.phase }, { on := 13, ground := Go.Ground.phase }, { on := 14, ground := Go.Ground.phase }, { on := 15, ground := Go.Ground.phase }], guard := none }) (by kernel_rfl) (by rfl) rfl (fun K hK => ?_)
                      go_simp
                      refine hK.out _ _ ?_
                      clear hK K
                      try simp only [Act.put, List.setIfInBounds_toArray, List.set_cons_zero, List.set_cons_succ]
                      refine wpAnyT_done (by kernel_rfl) ?_ _
                      go_wp2_with fail
                      go_roundg (t.keys.length - (k + 1))
                      case measure => rw [GK.out]; omega
                      case rel => exact ⟨k + 1, b, hlt, rfl, by go_num, rfl, wm_item hlt hlt' HNE.out HBL.out HPS.out HE.out (by have h9 := OEc.out; simp only [List.length_map] at h9; exact h9)⟩
                    exact AllReadyT.nil
                  exact AllReadyT.nil
                exact AllReadyT.nil
              exact AllReadyT.nil
        | false =>
          go_upto_if 26 with fail
          go_cut [8] from 16 to 58 (fun p wc => ∃ b : Bool, p = .bool b ∧ WmI w ok d t x key (some ⟨kb, ko, none⟩) a2 a3 a4 c1 c2 c3 c4 b k wc ∧ (b = false → Op.bytesLess (t.keys[k]'hlt) key = true))
          case first =>
            have HB := hidI hb
            obtain ⟨ps, ⟨kv, lv, i1, i2, i4⟩, i3⟩ := II.out
            have HPS := hidI i3
            have hpl : ps.length ≤ 100001 := by
              have h0 := congrArg List.length i3
              have h1 := wm_len (key := key) (x := x) (t.keys.zip t.l) false
              simp at h0 h1
              omega
            have hnk : (ps.map Prod.fst).length ≤ 1000000 := by rw [List.length_map]; omega
            have hnl : (ps.map Prod.snd).length ≤ 1000000 := by rw [List.length_map]; omega
            have OEc := hidI i2
            have hBc : w.heap.size + 3 + 1 ≤ wr.heap.size := i4
            have SOc := hidI i1
            have LK : Hid (∀ g, kv.ownBlock = some g → g < wr.heap.size) := hidI (fun g e => (i2.kown g e).2)
            have HY := HX
            clear i1 i2 i3 i4 hpl
            go_upto_region 7 with fail
            refine wp_region_T (SO w 3 (FM w t x (some ⟨kb, ko, none⟩) a2 a3 a4 c1 c2 c3 c4) kv lv) [11] (by kernel_rfl) (SOc.out.drew HF.out) (fun hHeld => ?_)
            refine wpAnyT_take (i := 0) (v := ?_) [1, 4, 9, 10, 11, 12, 13] (oi := { dst := some 27, op := Go.Op.fieldAddr 25 (Go.Operand.tmp 7) 3, type := 0, pos := "low.go:335", after := #[], guard := none }) rfl (by kernel_rfl) (by kernel_rfl) (by kernel_rfl) (by kernel_rfl) (fun _ _ _ h => h) (Or.inl ⟨by rfl, ?_⟩) hHeld ?_
            rotate_left
            · intro wS hSw
              go_simp
              all_goals with_reducible rfl
            simp only [Act.put, List.setIfInBounds_toArray, List.set_cons_zero, List.set_cons_succ]
            refine wpAnyT_take (i := 1) (v := ?_) [4, 9, 10, 11, 12, 13] (oi := { dst := some 28, op := Go.Op.load 22 (Go.Operand.tmp 27), type := 22, pos := "low.go:335", after := #[{ on := 0, ground := Go.Ground.data }], guard := none }) rfl (by kernel_rfl) (by kernel_rfl) (by kernel_rfl) (by kernel_rfl) (fun _ _ _ h => h) (Or.inl ⟨by rfl, ?_⟩) hHeld ?_
            rotate_left
            · intro wS hSw
              obtain ⟨s1, ⟨s2, s3, s5⟩, s4⟩ := hSw
              obtain ⟨x0, x1, x2, x3, x4, -⟩ := s1.c
              obtain ⟨y0, y1, y2, y3, y4, -⟩ := s2.c
              obtain ⟨z0, z1, z2, z3, z4, -⟩ := s3.c
              go_simp
              all_goals with_reducible rfl
            simp only [Act.put, List.setIfInBounds_toArray, List.set_cons_zero, List.set_cons_succ]
            refine wpAnyT_take (i := 2) (v := ?_) [3, 4, 9, 10, 11, 12, 13] (oi := { dst := some 29, op := Go.Op.move (Go.Operand.tmp 1), type := 9, pos := "low.go:335", after := #[], guard := none }) rfl (by kernel_rfl) (by kernel_rfl) (by kernel_rfl) (by kernel_rfl) (fun _ _ _ h => h) (Or.inl ⟨by rfl, ?_⟩) hHeld ?_
            rotate_left
            · intro wS hSw
              go_simp
              all_goals with_reducible rfl
            simp only [Act.put, List.setIfInBounds_toArray, List.set_cons_zero, List.set_cons_succ]
            refine wpAnyT_take (i := 5) (v := ?_) [6, 9, 10, 11, 12, 13] (oi := { dst := some 32, op := Go.Op.fieldAddr 25 (Go.Operand.tmp 7) 4, type := 0, pos := "low.go:335", after := #[], guard := none }) rfl (by kernel_rfl) (by kernel_rfl) (by kernel_rfl) (by kernel_rfl) (fun _ _ _ h => h) (Or.inl ⟨by rfl, ?_⟩) hHeld ?_
            rotate_left
            · intro wS hSw
              go_simp
              all_goals with_reducible rfl
            simp only [Act.put, List.setIfInBounds_toArray, List.set_cons_zero, List.set_cons_succ]
            refine wpAnyT_take (i := 6) (v := ?_) [9, 10, 11, 12, 13] (oi := { dst := some 33, op := Go.Op.load 23 (Go.Operand.tmp 32), type := 23, pos := "low.go:335", after := #[{ on := 5, ground := Go.Ground.data }], guard := none }) rfl (by kernel_rfl) (by kernel_rfl) (by kernel_rfl) (by kernel_rfl) (fun _ _ _ h => h) (Or.inl ⟨by rfl, ?_⟩) hHeld ?_
            rotate_left
            · intro wS hSw
              obtain ⟨s1, ⟨s2, s3, s5⟩, s4⟩ := hSw
              obtain ⟨x0, x1, x2, x3, x4, -⟩ := s1.c
              obtain ⟨y0, y1, y2, y3, y4, -⟩ := s2.c
              obtain ⟨z0, z1, z2, z3, z4, -⟩ := s3.c
              go_simp
              all_goals with_reducible rfl
            simp only [Act.put, List.setIfInBounds_toArray, List.set_cons_zero, List.set_cons_succ]
            refine wpAnyT_take (i := 7) (v := ?_) [8, 9, 11, 12, 13] (oi := { dst := some 34, op := Go.Op.load 25 (Go.Operand.tmp 5), type := 25, pos := "low.go:335", after := #[], guard := none }) rfl (by kernel_rfl) (by kernel_rfl) (by kernel_rfl) (by kernel_rfl) (fun _ _ _ h => h) (Or.inl ⟨by rfl, ?_⟩) hHeld ?_
            rotate_left
            · intro wS hSw
              obtain ⟨s1, ⟨s2, s3, s5⟩, s4⟩ := hSw
              obtain ⟨x0, x1, x2, x3, x4, -⟩ := s1.c
              obtain ⟨y0, y1, y2, y3, y4, -⟩ := s2.c
              obtain ⟨z0, z1, z2, z3, z4, -⟩ := s3.c
              go_simp
              all_goals with_reducible rfl
            simp only [Act.put, List.setIfInBounds_toArray, List.set_cons_zero, List.set_cons_succ]
            refine wpAnyT_ready (rs := [3, 8]) (by kernel_rfl) (by simp) ?_
            refine AllReadyT.cons (i := 3) (o := { dst := some 30, op := Go.Op.buildSlice 22 1 #[(0, Go.Operand.tmp 29)], type := 22, pos := "low.go:335", after := #[{ on := 2, ground := Go.Ground.data }], guard := none }) rfl (fun K hK => ?_) ?_
            · go_simp
              replace SOc := hidI (SOc.out.alloc HF.out (.cells #[.string ⟨key.toArray⟩] 9))
              replace OEc := hidI (OEc.out.bel (bel_alloc _ (.cells #[.string ⟨key.toArray⟩] 9)))
              replace hBc := Nat.le_trans hBc (bel_alloc _ (.cells #[.string ⟨key.toArray⟩] 9)).size
              have NBK : Hid ((wr.alloc (.cells #[.string ⟨key.toArray⟩] 9)).heap[wr.heap.size]? = some (.cells #[.string ⟨key.toArray⟩] 9)) := hidI (heap_alloc_new _ _)
              refine hK.out _ _ (SOc.out.drew HF.out) (fun hHeld2 => ?_)
              clear hK K
              replace hHeld := hHeld2
              clear hHeld2
              try simp only [Act.put, List.setIfInBounds_toArray, List.set_cons_zero, List.set_cons_succ]
              refine wpAnyT_ready (rs := [4, 8]) (by kernel_rfl) (by simp) ?_
              refine AllReadyT.cons (i := 4) (o := { dst := some 31, op := Go.Op.call { callee := Go.Callee.builtin Go.Builtin.append, args := #[Go.Operand.tmp 28, Go.Operand.tmp 30], argTypes := #[22, 22] }, type := 22, pos := "low.go:335", after := #[{ on := 1, ground := Go.Ground.data }, { on := 3, ground := Go.Ground.data }], guard := none }) rfl (fun K hK => ?_) ?_
              · have OEd := hidI OEc.out.drew
                have NBd : Hid (((wr.alloc (.cells #[.string ⟨key.toArray⟩] 9)).drew).heap[wr.heap.size]? = some (.cells #[.string ⟨key.toArray⟩] 9)) := hidI NBK.out
                refine step_run (by rfl) (.tmp 28) (.tmp 30) 22 (by rfl) _ _ rfl rfl _ (fun ty => OEd.out.key NBd.out hnk (by exact hBc) ty) (fun v9 W9 hR => ?_)
                obtain ⟨ho9, hg9, gK, cK, rfl⟩ := hR
                replace SOc := hidI (hHeld.grown HF.out hg9 (fun g e => (OEd.out.kown g e).1))
                refine hK.out _ _ SOc.out (fun hHeld2 => ?_)
                replace OEc := hidI ho9
                replace hBc := Nat.le_trans (by exact hBc) hg9.size
                clear ho9 hg9 OEd NBd
                clear hK K
                replace hHeld := hHeld2
                clear hHeld2
                try simp only [Act.put, List.setIfInBounds_toArray, List.set_cons_zero, List.set_cons_succ]
                refine wpAnyT_take (i := 10) (v := ?_) [11, 12, 13] (oi := { dst := some 37, op := Go.Op.fieldAddr 25 (Go.Operand.tmp 7) 3, type := 0, pos := "low.go:335", after := #[{ on := 0, ground := Go.Ground.phase }, { on := 1, ground := Go.Ground.phase }, { on := 2, ground := Go.Ground.phase }, { on := 3, ground := Go.Ground.phase }, { on := 4, ground := Go.Ground.phase }, { on := 5, ground := Go.Ground.phase }, { on := 6, ground := Go.Ground.phase }, { on := 7, ground := Go.Ground.textOnly Go.Departure.lateStores }, { on := 8, ground := Go.Ground.textOnly Go.Departure.lateStores }, { on := 9, ground := Go.Ground.textOnly Go.Departure.lateStoresUnsure }], guard := none }) rfl (by kernel_rfl) (by kernel_rfl) (by kernel_rfl) (by kernel_rfl) (fun _ _ _ h => h) (Or.inl ⟨by rfl, ?_⟩) hHeld ?_
                rotate_left
                · intro wS hSw
                  go_simp
                  all_goals with_reducible rfl
                simp only [Act.put, List.setIfInBounds_toArray, List.set_cons_zero, List.set_cons_succ]
                refine wpAnyT_ready (rs := [8]) (by kernel_rfl) (by simp) ?_
                refine AllReadyT.cons (i := 8) (o := { dst := some 35, op := Go.Op.buildSlice 23 1 #[(0, Go.Operand.tmp 34)], type := 23, pos := "low.go:335", after := #[{ on := 7, ground := Go.Ground.data }], guard := none }) rfl (fun K hK => ?_) ?_
                · go_simp
                  replace SOc := hidI (SOc.out.alloc HF.out (.cells #[.int .i64 x.kind, .int .i64 x.n, .string ⟨x.s.toArray⟩, .slice a3 x.keys.length c3, .slice a4 x.l.length c4] 25))
                  replace OEc := hidI (OEc.out.bel (bel_alloc _ (.cells #[.int .i64 x.kind, .int .i64 x.n, .string ⟨x.s.toArray⟩, .slice a3 x.keys.length c3, .slice a4 x.l.length c4] 25)))
                  replace hBc := Nat.le_trans hBc (bel_alloc _ (.cells #[.int .i64 x.kind, .int .i64 x.n, .string ⟨x.s.toArray⟩, .slice a3 x.keys.length c3, .slice a4 x.l.length c4] 25)).size
                  have NBV : Hid ((W9.alloc (.cells #[.int .i64 x.kind, .int .i64 x.n, .string ⟨x.s.toArray⟩, .slice a3 x.keys.length c3, .slice a4 x.l.length c4] 25)).heap[W9.heap.size]? = some (.cells #[.int .i64 x.kind, .int .i64 x.n, .string ⟨x.s.toArray⟩, .slice a3 x.keys.length c3, .slice a4 x.l.length c4] 25)) := hidI (heap_alloc_new _ _)
                  refine hK.out _ _ (SOc.out) (fun hHeld2 => ?_)
                  clear hK K
                  replace hHeld := hHeld2
                  clear hHeld2
                  try simp only [Act.put, List.setIfInBounds_toArray, List.set_cons_zero, List.set_cons_succ]
                  refine wpAnyT_ready (rs := [9]) (by kernel_rfl) (by simp) ?_
                  refine AllReadyT.cons (i := 9) (o := { dst := some 36, op := Go.Op.call { callee := Go.Callee.builtin Go.Builtin.append, args := #[Go.Operand.tmp 33, Go.Operand.tmp 35], argTypes := #[23, 23] }, type := 23, pos := "low.go:335", after := #[{ on := 6, ground := Go.Ground.data }, { on := 8, ground := Go.Ground.data }, { on := 4, ground := Go.Ground.chain }], guard := none }) rfl (fun K hK => ?_) ?_
                  · have OEd := hidI OEc.out
                    have HY2 := hidI (HY.out.bel OEd.out.below)
                    have NBd := hidI NBV.out
                    refine step_run (by rfl) (.tmp 33) (.tmp 35) 23 (by rfl) _ _ rfl rfl _ (fun ty => OEd.out.item NBd.out HY2.out hnl (by exact hBc) ty) (fun v9 W9 hR => ?_)
                    obtain ⟨ho9, hg9, gV, cV, rfl⟩ := hR
                    replace SOc := hidI (hHeld.grown HF.out hg9 (fun g e => (OEd.out.lown g e).1))
                    refine hK.out _ _ SOc.out (fun hHeld2 => ?_)
                    replace OEc := hidI ho9
                    replace hBc := Nat.le_trans (by exact hBc) hg9.size
                    clear ho9 hg9 OEd NBd
                    clear hK K
                    replace hHeld := hHeld2
                    clear hHeld2
                    try simp only [Act.put, List.setIfInBounds_toArray, List.set_cons_zero, List.set_cons_succ]
                    obtain ⟨o0, o1, o2, o3, o4, f0, f1, f2, f3, f4⟩ := hHeld.1.c
                    have HE := hidI hHeld
                    clear hHeld
                    refine wpAnyT_last (i := 11) (o := { dst := none, op := Go.Op.store 22 (Go.Operand.tmp 37) (Go.Operand.tmp 31), type := 0, pos := "low.go:335", after := #[{ on := 10, ground := Go.Ground.data }, { on := 4, ground := Go.Ground.data }, { on := 9, ground := Go.Ground.chain }, { on := 0, ground := Go.Ground.phase }, { on := 1, ground := Go.Ground.phase }, { on := 2, ground := Go.Ground.phase }, { on := 3, ground := Go.Ground.phase }, { on := 4, ground := Go.Ground.phase }, { on := 5, ground := Go.Ground.phase }, { on := 6, ground := Go.Ground.phase }, { on := 7, ground := Go.Ground.textOnly Go.Departure.lateStores }, { on := 8, ground := Go.Ground.textOnly Go.Departure.lateStores }, { on := 9, ground := Go.Ground.textOnly Go.Departure.lateStoresUnsure }], guard := none }) (by kernel_rfl) (by rfl) rfl (fun K hK => ?_)
                    go_simp
                    refine hK.out _ _ ?_
                    clear hK K
                    try simp only [Act.put, List.setIfInBounds_toArray, List.set_cons_zero, List.set_cons_succ]
                    refine wpAnyT_last (i := 12) (o := { dst := some 38, op := Go.Op.fieldAddr 25 (Go.Operand.tmp 7) 4, type := 0, pos := "low.go:335", after := #[{ on := 0, ground := Go.Ground.phase }, { on := 1, ground := Go.Ground.phase }, { on := 2, ground := Go.Ground.phase }, { on := 3, ground := Go.Ground.phase }, { on := 4, ground := Go.Ground.phase }, { on := 5, ground := Go.Ground.phase }, { on := 6, ground := Go.Ground.phase }, { on := 7, ground := Go.Ground.phase }, { on := 8, ground := Go.Ground.phase }, { on := 9, ground := Go.Ground.phase }, { on := 10, ground := Go.Ground.phase }, { on := 11, ground := Go.Ground.phase }], guard := none }) (by kernel_rfl) (by rfl) rfl (fun K hK => ?_)
                    go_simp
                    refine hK.out _ _ ?_
                    clear hK K
                    try simp only [Act.put, List.setIfInBounds_toArray, List.set_cons_zero, List.set_cons_succ]
                    refine wpAnyT_last (i := 13) (o := { dst := none, op := Go.Op.store 23 (Go.Operand.tmp 38) (Go.Operand.tmp 36), type := 0, pos := "low.go:335", after := #[{ on := 12, ground := Go.Ground.data }, { on := 9, ground := Go.Ground.data }, { on := 11, ground := Go.Ground.chain }, { on := 0, ground := Go.Ground.phase }, { on := 1, ground := Go.Ground.phase }, { on := 2, ground := Go.Ground.phase }, { on := 3, ground := Go.Ground.phase }, { on := 4, ground := Go.Ground.phase }, { on := 5, ground := Go.Ground.phase }, { on := 6, ground := Go.Ground.phase }, { on := 7, ground := Go.Ground.phase }, { on := 8, ground := Go.Ground.phase }, { on := 9, ground := Go.Ground.phase }, { on := 10, ground := Go.Ground.phase }, { on := 11, ground := Go.Ground.phase }], guard := none }) (by kernel_rfl) (by rfl) rfl (fun K hK => ?_)
                    go_simp
                    refine hK.out _ _ ?_
                    clear hK K
                    try simp only [Act.put, List.setIfInBounds_toArray, List.set_cons_zero, List.set_cons_succ]
                    refine wpAnyT_done (by kernel_rfl) ?_ _
                    go_wp2_with fail
                    go_meet
                    case rel => exact ⟨true, rfl, wm_push hlt hlt' HB.out HPS.out HE.out (by have h9 := OEc.out; simp only [List.length_map] at h9; exact h9), by simp⟩
                  exact AllReadyT.nil
                exact AllReadyT.nil
              refine AllReadyT.cons (i := 8) (o := { dst := some 35, op := Go.Op.buildSlice 23 1 #[(0, Go.Operand.tmp 34)], type := 23, pos := "low.go:335", after := #[{ on := 7, ground := Go.Ground.data }], guard := none }) rfl (fun K hK => ?_) ?_
              · go_simp
                replace SOc := hidI (SOc.out.alloc HF.out (.cells #[.int .i64 x.kind, .int .i64 x.n, .string ⟨x.s.toArray⟩, .slice a3 x.keys.length c3, .slice a4 x.l.length c4] 25))
                replace OEc := hidI (OEc.out.bel (bel_alloc _ (.cells #[.int .i64 x.kind, .int .i64 x.n, .string ⟨x.s.toArray⟩, .slice a3 x.keys.length c3, .slice a4 x.l.length c4] 25)))
                replace hBc := Nat.le_trans hBc (bel_alloc _ (.cells #[.int .i64 x.kind, .int .i64 x.n, .string ⟨x.s.toArray⟩, .slice a3 x.keys.length c3, .slice a4 x.l.length c4] 25)).size
                clear NBK
                have NBK : Hid (((wr.alloc (.cells #[.string ⟨key.toArray⟩] 9)).alloc (.cells #[.int .i64 x.kind, .int .i64 x.n, .string ⟨x.s.toArray⟩, .slice a3 x.keys.length c3, .slice a4 x.l.length c4] 25)).heap[wr.heap.size]? = some (.cells #[.string ⟨key.toArray⟩] 9)) := hidI (h2a _ _ _)
                have NBV : Hid (((wr.alloc (.cells #[.string ⟨key.toArray⟩] 9)).alloc (.cells #[.int .i64 x.kind, .int .i64 x.n, .string ⟨x.s.toArray⟩, .slice a3 x.keys.length c3, .slice a4 x.l.length c4] 25)).heap[wr.heap.size + 1]? = some (.cells #[.int .i64 x.kind, .int .i64 x.n, .string ⟨x.s.toArray⟩, .slice a3 x.keys.length c3, .slice a4 x.l.length c4] 25)) := hidI (h2b _ _ _)
                refine hK.out _ _ (SOc.out.drew HF.out) (fun hHeld2 => ?_)
                clear hK K
                replace hHeld := hHeld2
                clear hHeld2
                try simp only [Act.put, List.setIfInBounds_toArray, List.set_cons_zero, List.set_cons_succ]
                refine wpAnyT_ready (rs := [4]) (by kernel_rfl) (by simp) ?_
                refine AllReadyT.cons (i := 4) (o := { dst := some 31, op := Go.Op.call { callee := Go.Callee.builtin Go.Builtin.append, args := #[Go.Operand.tmp 28, Go.Operand.tmp 30], argTypes := #[22, 22] }, type := 22, pos := "low.go:335", after := #[{ on := 1, ground := Go.Ground.data }, { on := 3, ground := Go.Ground.data }], guard := none }) rfl (fun K hK => ?_) ?_
                · have OEd := hidI OEc.out.drew
                  have NBd : Hid ((((wr.alloc (.cells #[.string ⟨key.toArray⟩] 9)).alloc (.cells #[.int .i64 x.kind, .int .i64 x.n, .string ⟨x.s.toArray⟩, .slice a3 x.keys.length c3, .slice a4 x.l.length c4] 25)).drew).heap[wr.heap.size]? = some (.cells #[.string ⟨key.toArray⟩] 9)) := hidI NBK.out
                  refine step_run (by rfl) (.tmp 28) (.tmp 30) 22 (by rfl) _ _ rfl rfl _ (fun ty => OEd.out.key NBd.out hnk (by exact hBc) ty) (fun v9 W9 hR => ?_)
                  obtain ⟨ho9, hg9, gK, cK, rfl⟩ := hR
                  replace SOc := hidI (hHeld.grown HF.out hg9 (fun g e => (OEd.out.kown g e).1))
                  refine hK.out _ _ SOc.out (fun hHeld2 => ?_)
                  replace NBV := hidI (nb_grown ((by exact NBV.out : (((wr.alloc (.cells #[.string ⟨key.toArray⟩] 9)).alloc (.cells #[.int .i64 x.kind, .int .i64 x.n, .string ⟨x.s.toArray⟩, .slice a3 x.keys.length c3, .slice a4 x.l.length c4] 25)).drew).heap[wr.heap.size + 1]? = some (.cells #[.int .i64 x.kind, .int .i64 x.n, .string ⟨x.s.toArray⟩, .slice a3 x.keys.length c3, .slice a4 x.l.length c4] 25))) hg9 (fun e => by have := LK.out _ e.symm; omega))
                  replace OEc := hidI ho9
                  replace hBc := Nat.le_trans (by exact hBc) hg9.size
                  clear ho9 hg9 OEd NBd
                  clear hK K
                  replace hHeld := hHeld2
                  clear hHeld2
                  try simp only [Act.put, List.setIfInBounds_toArray, List.set_cons_zero, List.set_cons_succ]
                  refine wpAnyT_take (i := 10) (v := ?_) [11, 12, 13] (oi := { dst := some 37, op := Go.Op.fieldAddr 25 (Go.Operand.tmp 7) 3, type := 0, pos := "low.go:335", after := #[{ on := 0, ground := Go.Ground.phase }, { on := 1, ground := Go.Ground.phase }, { on := 2, ground := Go.Ground.phase }, { on := 3, ground := Go.Ground.phase }, { on := 4, ground := Go.Ground.phase }, { on := 5, ground := Go.Ground.phase }, { on := 6, ground := Go.Ground.phase }, { on := 7, ground := Go.Ground.textOnly Go.Departure.lateStores }, { on := 8, ground := Go.Ground.textOnly Go.Departure.lateStores }, { on := 9, ground := Go.Ground.textOnly Go.Departure.lateStoresUnsure }], guard := none }) rfl (by kernel_rfl) (by kernel_rfl) (by kernel_rfl) (by kernel_rfl) (fun _ _ _ h => h) (Or.inl ⟨by rfl, ?_⟩) hHeld ?_
                  rotate_left
                  · intro wS hSw
                    go_simp
                    all_goals with_reducible rfl
                  simp only [Act.put, List.setIfInBounds_toArray, List.set_cons_zero, List.set_cons_succ]
                  refine wpAnyT_ready (rs := [9]) (by kernel_rfl) (by simp) ?_
                  refine AllReadyT.cons (i := 9) (o := { dst := some 36, op := Go.Op.call { callee := Go.Callee.builtin Go.Builtin.append, args := #[Go.Operand.tmp 33, Go.Operand.tmp 35], argTypes := #[23, 23] }, type := 23, pos := "low.go:335", after := #[{ on := 6, ground := Go.Ground.data }, { on := 8, ground := Go.Ground.data }, { on := 4, ground := Go.Ground.chain }], guard := none }) rfl (fun K hK => ?_) ?_
                  · have OEd := hidI OEc.out
                    have HY2 := hidI (HY.out.bel OEd.out.below)
                    have NBd := hidI NBV.out
                    refine step_run (by rfl) (.tmp 33) (.tmp 35) 23 (by rfl) _ _ rfl rfl _ (fun ty => OEd.out.item NBd.out HY2.out hnl (by exact hBc) ty) (fun v9 W9 hR => ?_)
                    obtain ⟨ho9, hg9, gV, cV, rfl⟩ := hR
                    replace SOc := hidI (hHeld.grown HF.out hg9 (fun g e => (OEd.out.lown g e).1))
                    refine hK.out _ _ SOc.out (fun hHeld2 => ?_)
                    replace OEc := hidI ho9
                    replace hBc := Nat.le_trans (by exact hBc) hg9.size
                    clear ho9 hg9 OEd NBd
                    clear hK K
                    replace hHeld := hHeld2
                    clear hHeld2
                    try simp only [Act.put, List.setIfInBounds_toArray, List.set_cons_zero, List.set_cons_succ]
                    obtain ⟨o0, o1, o2, o3, o4, f0, f1, f2, f3, f4⟩ := hHeld.1.c
                    have HE := hidI hHeld
                    clear hHeld
                    refine wpAnyT_last (i := 11) (o := { dst := none, op := Go.Op.store 22 (Go.Operand.tmp 37) (Go.Operand.tmp 31), type := 0, pos := "low.go:335", after := #[{ on := 10, ground := Go.Ground.data }, { on := 4, ground := Go.Ground.data }, { on := 9, ground := Go.Ground.chain }, { on := 0, ground := Go.Ground.phase }, { on := 1, ground := Go.Ground.phase }, { on := 2, ground := Go.Ground.phase }, { on := 3, ground := Go.Ground.phase }, { on := 4, ground := Go.Ground.phase }, { on := 5, ground := Go.Ground.phase }, { on := 6, ground := Go.Ground.phase }, { on := 7, ground := Go.Ground.textOnly Go.Departure.lateStores }, { on := 8, ground := Go.Ground.textOnly Go.Departure.lateStores }, { on := 9, ground := Go.Ground.textOnly Go.Departure.lateStoresUnsure }], guard := none }) (by kernel_rfl) (by rfl) rfl (fun K hK => ?_)
                    go_simp
                    refine hK.out _ _ ?_
                    clear hK K
                    try simp only [Act.put, List.setIfInBounds_toArray, List.set_cons_zero, List.set_cons_succ]
                    refine wpAnyT_last (i := 12) (o := { dst := some 38, op := Go.Op.fieldAddr 25 (Go.Operand.tmp 7) 4, type := 0, pos := "low.go:335", after := #[{ on := 0, ground := Go.Ground.phase }, { on := 1, ground := Go.Ground.phase }, { on := 2, ground := Go.Ground.phase }, { on := 3, ground := Go.Ground.phase }, { on := 4, ground := Go.Ground.phase }, { on := 5, ground := Go.Ground.phase }, { on := 6, ground := Go.Ground.phase }, { on := 7, ground := Go.Ground.phase }, { on := 8, ground := Go.Ground.phase }, { on := 9, ground := Go.Ground.phase }, { on := 10, ground := Go.Ground.phase }, { on := 11, ground := Go.Ground.phase }], guard := none }) (by kernel_rfl) (by rfl) rfl (fun K hK => ?_)
                    go_simp
                    refine hK.out _ _ ?_
                    clear hK K
                    try simp only [Act.put, List.setIfInBounds_toArray, List.set_cons_zero, List.set_cons_succ]
                    refine wpAnyT_last (i := 13) (o := { dst := none, op := Go.Op.store 23 (Go.Operand.tmp 38) (Go.Operand.tmp 36), type := 0, pos := "low.go:335", after := #[{ on := 12, ground := Go.Ground.data }, { on := 9, ground := Go.Ground.data }, { on := 11, ground := Go.Ground.chain }, { on := 0, ground := Go.Ground.phase }, { on := 1, ground := Go.Ground.phase }, { on := 2, ground := Go.Ground.phase }, { on := 3, ground := Go.Ground.phase }, { on := 4, ground := Go.Ground.phase }, { on := 5, ground := Go.Ground.phase }, { on := 6, ground := Go.Ground.phase }, { on := 7, ground := Go.Ground.phase }, { on := 8, ground := Go.Ground.phase }, { on := 9, ground := Go.Ground.phase }, { on := 10, ground := Go.Ground.phase }, { on := 11, ground := Go.Ground.phase }], guard := none }) (by kernel_rfl) (by rfl) rfl (fun K hK => ?_)
                    go_simp
                    refine hK.out _ _ ?_
                    clear hK K
                    try simp only [Act.put, List.setIfInBounds_toArray, List.set_cons_zero, List.set_cons_succ]
                    refine wpAnyT_done (by kernel_rfl) ?_ _
                    go_wp2_with fail
                    go_meet
                    case rel => exact ⟨true, rfl, wm_push hlt hlt' HB.out HPS.out HE.out (by have h9 := OEc.out; simp only [List.length_map] at h9; exact h9), by simp⟩
                  exact AllReadyT.nil
                exact AllReadyT.nil
              exact AllReadyT.nil
            refine AllReadyT.cons (i := 8) (o := { dst := some 35, op := Go.Op.buildSlice 23 1 #[(0, Go.Operand.tmp 34)], type := 23, pos := "low.go:335", after := #[{ on := 7, ground := Go.Ground.data }], guard := none }) rfl (fun K hK => ?_) ?_
            · go_simp
              replace SOc := hidI (SOc.out.alloc HF.out (.cells #[.int .i64 x.kind, .int .i64 x.n, .string ⟨x.s.toArray⟩, .slice a3 x.keys.length c3, .slice a4 x.l.length c4] 25))
              replace OEc := hidI (OEc.out.bel (bel_alloc _ (.cells #[.int .i64 x.kind, .int .i64 x.n, .string ⟨x.s.toArray⟩, .slice a3 x.keys.length c3, .slice a4 x.l.length c4] 25)))
              replace hBc := Nat.le_trans hBc (bel_alloc _ (.cells #[.int .i64 x.kind, .int .i64 x.n, .string ⟨x.s.toArray⟩, .slice a3 x.keys.length c3, .slice a4 x.l.length c4] 25)).size
              have NBV : Hid ((wr.alloc (.cells #[.int .i64 x.kind, .int .i64 x.n, .string ⟨x.s.toArray⟩, .slice a3 x.keys.length c3, .slice a4 x.l.length c4] 25)).heap[wr.heap.size]? = some (.cells #[.int .i64 x.kind, .int .i64 x.n, .string ⟨x.s.toArray⟩, .slice a3 x.keys.length c3, .slice a4 x.l.length c4] 25)) := hidI (heap_alloc_new _ _)
              refine hK.out _ _ (SOc.out.drew HF.out) (fun hHeld2 => ?_)
              clear hK K
              replace hHeld := hHeld2
              clear hHeld2
              try simp only [Act.put, List.setIfInBounds_toArray, List.set_cons_zero, List.set_cons_succ]
              refine wpAnyT_ready (rs := [3]) (by kernel_rfl) (by simp) ?_
              refine AllReadyT.cons (i := 3) (o := { dst := some 30, op := Go.Op.buildSlice 22 1 #[(0, Go.Operand.tmp 29)], type := 22, pos := "low.go:335", after := #[{ on := 2, ground := Go.Ground.data }], guard := none }) rfl (fun K hK => ?_) ?_
              · go_simp
                replace SOc := hidI (SOc.out.alloc HF.out (.cells #[.string ⟨key.toArray⟩] 9))
                replace OEc := hidI (OEc.out.bel (bel_alloc _ (.cells #[.string ⟨key.toArray⟩] 9)))
                replace hBc := Nat.le_trans hBc (bel_alloc _ (.cells #[.string ⟨key.toArray⟩] 9)).size
                clear NBV
                have NBV : Hid (((wr.alloc (.cells #[.int .i64 x.kind, .int .i64 x.n, .string ⟨x.s.toArray⟩, .slice a3 x.keys.length c3, .slice a4 x.l.length c4] 25)).alloc (.cells #[.string ⟨key.toArray⟩] 9)).heap[wr.heap.size]? = some (.cells #[.int .i64 x.kind, .int .i64 x.n, .string ⟨x.s.toArray⟩, .slice a3 x.keys.length c3, .slice a4 x.l.length c4] 25)) := hidI (h2a _ _ _)
                have NBK : Hid (((wr.alloc (.cells #[.int .i64 x.kind, .int .i64 x.n, .string ⟨x.s.toArray⟩, .slice a3 x.keys.length c3, .slice a4 x.l.length c4] 25)).alloc (.cells #[.string ⟨key.toArray⟩] 9)).heap[wr.heap.size + 1]? = some (.cells #[.string ⟨key.toArray⟩] 9)) := hidI (h2b _ _ _)
                refine hK.out _ _ (SOc.out.drew HF.out) (fun hHeld2 => ?_)
                clear hK K
                replace hHeld := hHeld2
                clear hHeld2
                try simp only [Act.put, List.setIfInBounds_toArray, List.set_cons_zero, List.set_cons_succ]
                refine wpAnyT_ready (rs := [4]) (by kernel_rfl) (by simp) ?_
                refine AllReadyT.cons (i := 4) (o := { dst := some 31, op := Go.Op.call { callee := Go.Callee.builtin Go.Builtin.append, args := #[Go.Operand.tmp 28, Go.Operand.tmp 30], argTypes := #[22, 22] }, type := 22, pos := "low.go:335", after := #[{ on := 1, ground := Go.Ground.data }, { on := 3, ground := Go.Ground.data }], guard := none }) rfl (fun K hK => ?_) ?_
                · have OEd := hidI OEc.out.drew
                  have NBd : Hid ((((wr.alloc (.cells #[.int .i64 x.kind, .int .i64 x.n, .string ⟨x.s.toArray⟩, .slice a3 x.keys.length c3, .slice a4 x.l.length c4] 25)).alloc (.cells #[.string ⟨key.toArray⟩] 9)).drew).heap[wr.heap.size + 1]? = some (.cells #[.string ⟨key.toArray⟩] 9)) := hidI NBK.out
                  refine step_run (by rfl) (.tmp 28) (.tmp 30) 22 (by rfl) _ _ rfl rfl _ (fun ty => OEd.out.key NBd.out hnk (by exact hBc) ty) (fun v9 W9 hR => ?_)
                  obtain ⟨ho9, hg9, gK, cK, rfl⟩ := hR
                  replace SOc := hidI (hHeld.grown HF.out hg9 (fun g e => (OEd.out.kown g e).1))
                  refine hK.out _ _ SOc.out (fun hHeld2 => ?_)
                  replace NBV := hidI (nb_grown ((by exact NBV.out : (((wr.alloc (.cells #[.int .i64 x.kind, .int .i64 x.n, .string ⟨x.s.toArray⟩, .slice a3 x.keys.length c3, .slice a4 x.l.length c4] 25)).alloc (.cells #[.string ⟨key.toArray⟩] 9)).drew).heap[wr.heap.size]? = some (.cells #[.int .i64 x.kind, .int .i64 x.n, .string ⟨x.s.toArray⟩, .slice a3 x.keys.length c3, .slice a4 x.l.length c4] 25))) hg9 (fun e => by have := LK.out _ e.symm; omega))
                  replace OEc := hidI ho9
                  replace hBc := Nat.le_trans (by exact hBc) hg9.size
                  clear ho9 hg9 OEd NBd
                  clear hK K
                  replace hHeld := hHeld2
                  clear hHeld2
                  try simp only [Act.put, List.setIfInBounds_toArray, List.set_cons_zero, List.set_cons_succ]
                  refine wpAnyT_take (i := 10) (v := ?_) [11, 12, 13] (oi := { dst := some 37, op := Go.Op.fieldAddr 25 (Go.Operand.tmp 7) 3, type := 0, pos := "low.go:335", after := #[{ on := 0, ground := Go.Ground.phase }, { on := 1, ground := Go.Ground.phase }, { on := 2, ground := Go.Ground.phase }, { on := 3, ground := Go.Ground.phase }, { on := 4, ground := Go.Ground.phase }, { on := 5, ground := Go.Ground.phase }, { on := 6, ground := Go.Ground.phase }, { on := 7, ground := Go.Ground.textOnly Go.Departure.lateStores }, { on := 8, ground := Go.Ground.textOnly Go.Departure.lateStores }, { on := 9, ground := Go.Ground.textOnly Go.Departure.lateStoresUnsure }], guard := none }) rfl (by kernel_rfl) (by kernel_rfl) (by kernel_rfl) (by kernel_rfl) (fun _ _ _ h => h) (Or.inl ⟨by rfl, ?_⟩) hHeld ?_
                  rotate_left
                  · intro wS hSw
                    go_simp
                    all_goals with_reducible rfl
                  simp only [Act.put, List.setIfInBounds_toArray, List.set_cons_zero, List.set_cons_succ]
                  refine wpAnyT_ready (rs := [9]) (by kernel_rfl) (by simp) ?_
                  refine AllReadyT.cons (i := 9) (o := { dst := some 36, op := Go.Op.call { callee := Go.Callee.builtin Go.Builtin.append, args := #[Go.Operand.tmp 33, Go.Operand.tmp 35], argTypes := #[23, 23] }, type := 23, pos := "low.go:335", after := #[{ on := 6, ground := Go.Ground.data }, { on := 8, ground := Go.Ground.data }, { on := 4, ground := Go.Ground.chain }], guard := none }) rfl (fun K hK => ?_) ?_
                  · have OEd := hidI OEc.out
                    have HY2 := hidI (HY.out.bel OEd.out.below)
                    have NBd := hidI NBV.out
                    refine step_run (by rfl) (.tmp 33) (.tmp 35) 23 (by rfl) _ _ rfl rfl _ (fun ty => OEd.out.item NBd.out HY2.out hnl (by exact hBc) ty) (fun v9 W9 hR => ?_)
                    obtain ⟨ho9, hg9, gV, cV, rfl⟩ := hR
                    replace SOc := hidI (hHeld.grown HF.out hg9 (fun g e => (OEd.out.lown g e).1))
                    refine hK.out _ _ SOc.out (fun hHeld2 => ?_)
                    replace OEc := hidI ho9
                    replace hBc := Nat.le_trans (by exact hBc) hg9.size
                    clear ho9 hg9 OEd NBd
                    clear hK K
                    replace hHeld := hHeld2
                    clear hHeld2
                    try simp only [Act.put, List.setIfInBounds_toArray, List.set_cons_zero, List.set_cons_succ]
                    obtain ⟨o0, o1, o2, o3, o4, f0, f1, f2, f3, f4⟩ := hHeld.1.c
                    have HE := hidI hHeld
                    clear hHeld
                    refine wpAnyT_last (i := 11) (o := { dst := none, op := Go.Op.store 22 (Go.Operand.tmp 37) (Go.Operand.tmp 31), type := 0, pos := "low.go:335", after := #[{ on := 10, ground := Go.Ground.data }, { on := 4, ground := Go.Ground.data }, { on := 9, ground := Go.Ground.chain }, { on := 0, ground := Go.Ground.phase }, { on := 1, ground := Go.Ground.phase }, { on := 2, ground := Go.Ground.phase }, { on := 3, ground := Go.Ground.phase }, { on := 4, ground := Go.Ground.phase }, { on := 5, ground := Go.Ground.phase }, { on := 6, ground := Go.Ground.phase }, { on := 7, ground := Go.Ground.textOnly Go.Departure.lateStores }, { on := 8, ground := Go.Ground.textOnly Go.Departure.lateStores }, { on := 9, ground := Go.Ground.textOnly Go.Departure.lateStoresUnsure }], guard := none }) (by kernel_rfl) (by rfl) rfl (fun K hK => ?_)
                    go_simp
                    refine hK.out _ _ ?_
                    clear hK K
                    try simp only [Act.put, List.setIfInBounds_toArray, List.set_cons_zero, List.set_cons_succ]
                    refine wpAnyT_last (i := 12) (o := { dst := some 38, op := Go.Op.fieldAddr 25 (Go.Operand.tmp 7) 4, type := 0, pos := "low.go:335", after := #[{ on := 0, ground := Go.Ground.phase }, { on := 1, ground := Go.Ground.phase }, { on := 2, ground := Go.Ground.phase }, { on := 3, ground := Go.Ground.phase }, { on := 4, ground := Go.Ground.phase }, { on := 5, ground := Go.Ground.phase }, { on := 6, ground := Go.Ground.phase }, { on := 7, ground := Go.Ground.phase }, { on := 8, ground := Go.Ground.phase }, { on := 9, ground := Go.Ground.phase }, { on := 10, ground := Go.Ground.phase }, { on := 11, ground := Go.Ground.phase }], guard := none }) (by kernel_rfl) (by rfl) rfl (fun K hK => ?_)
                    go_simp
                    refine hK.out _ _ ?_
                    clear hK K
                    try simp only [Act.put, List.setIfInBounds_toArray, List.set_cons_zero, List.set_cons_succ]
                    refine wpAnyT_last (i := 13) (o := { dst := none, op := Go.Op.store 23 (Go.Operand.tmp 38) (Go.Operand.tmp 36), type := 0, pos := "low.go:335", after := #[{ on := 12, ground := Go.Ground.data }, { on := 9, ground := Go.Ground.data }, { on := 11, ground := Go.Ground.chain }, { on := 0, ground := Go.Ground.phase }, { on := 1, ground := Go.Ground.phase }, { on := 2, ground := Go.Ground.phase }, { on := 3, ground := Go.Ground.phase }, { on := 4, ground := Go.Ground.phase }, { on := 5, ground := Go.Ground.phase }, { on := 6, ground := Go.Ground.phase }, { on := 7, ground := Go.Ground.phase }, { on := 8, ground := Go.Ground.phase }, { on := 9, ground := Go.Ground.phase }, { on := 10, ground := Go.Ground.phase }, { on := 11, ground := Go.Ground.phase }], guard := none }) (by kernel_rfl) (by rfl) rfl (fun K hK => ?_)
                    go_simp
                    refine hK.out _ _ ?_
                    clear hK K
                    try simp only [Act.put, List.setIfInBounds_toArray, List.set_cons_zero, List.set_cons_succ]
                    refine wpAnyT_done (by kernel_rfl) ?_ _
                    go_wp2_with fail
                    go_meet
                    case rel => exact ⟨true, rfl, wm_push hlt hlt' HB.out HPS.out HE.out (by have h9 := OEc.out; simp only [List.length_map] at h9; exact h9), by simp⟩
                  exact AllReadyT.nil
                exact AllReadyT.nil
              exact AllReadyT.nil
            exact AllReadyT.nil
          case rest =>
            obtain ⟨b, rfl, hI, hbl⟩ := hcut
            have II := hidI hI
            have HBL := hidI hbl
            clear hI hbl
            by_cases he : t.keys[k] = key
            · have e3 : (t.keys[k] == key) = true := by simp [he]
              have HN := hidI (wm_less hlt hlt' he HBL.out II.out)
              clear he
              go_wp2_with fail
              go_roundg (t.keys.length - (k + 1))
              case measure => rw [GK.out]; omega
              case rel => exact ⟨k + 1, b, hlt, rfl, by go_num, rfl, HN.out⟩
            · have e3 : (t.keys[k] == key) = false := by simp [he]
              have HNE := hidI he
              obtain ⟨xb, xo, rfl, j3, j4, a5, c5, a6, c6, g0, g1, g2, g3, g4, g5⟩ := vals_at VV.out.1 hlt'
              unfold maxLen at j4
              have G0 := hidI g0
              have G1 := hidI g1
              have G2 := hidI g2
              have G3 := hidI g3
              have G4 := hidI g4
              have HY := hidI g5.below
              obtain ⟨ps, ⟨kv, lv, i1, i2, i4⟩, i3⟩ := II.out
              have HPS := hidI i3
              have hpl : ps.length ≤ 100001 := by
                have h0 := congrArg List.length i3
                have h1 := wm_len (key := key) (x := x) (t.keys.zip t.l) false
                simp at h0 h1
                omega
              have hnk : (ps.map Prod.fst).length ≤ 1000000 := by rw [List.length_map]; omega
              have hnl : (ps.map Prod.snd).length ≤ 1000000 := by rw [List.length_map]; omega
              have OEc := hidI i2
              have hBc : w.heap.size + 3 + 1 ≤ wc.heap.size := i4
              have SOc := hidI i1
              have LK : Hid (∀ g, kv.ownBlock = some g → g < wc.heap.size) := hidI (fun g e => (i2.kown g e).2)
              clear he g0 g1 g2 g3 g4 g5 i1 i2 i3 i4 hpl
              go_upto_region 10 with fail
              refine wp_region_T (SO w 3 (FM w t x (some ⟨kb, ko, none⟩) (some ⟨xb, xo, none⟩) a3 a4 c1 c2 c3 c4) kv lv) [15] (by kernel_rfl) (SOc.out.drew HF.out) (fun hHeld => ?_)
              refine wpAnyT_take (i := 0) (v := ?_) [1, 4, 13, 14, 15, 16, 17] (oi := { dst := some 42, op := Go.Op.fieldAddr 25 (Go.Operand.tmp 7) 3, type := 0, pos := "low.go:339", after := #[], guard := none }) rfl (by kernel_rfl) (by kernel_rfl) (by kernel_rfl) (by kernel_rfl) (fun _ _ _ h => h) (Or.inl ⟨by rfl, ?_⟩) hHeld ?_
              rotate_left
              · intro wS hSw
                go_simp
                all_goals with_reducible rfl
              simp only [Act.put, List.setIfInBounds_toArray, List.set_cons_zero, List.set_cons_succ]
              refine wpAnyT_take (i := 1) (v := ?_) [4, 13, 14, 15, 16, 17] (oi := { dst := some 43, op := Go.Op.load 22 (Go.Operand.tmp 42), type := 22, pos := "low.go:339", after := #[{ on := 0, ground := Go.Ground.data }], guard := none }) rfl (by kernel_rfl) (by kernel_rfl) (by kernel_rfl) (by kernel_rfl) (fun _ _ _ h => h) (Or.inl ⟨by rfl, ?_⟩) hHeld ?_
              rotate_left
              · intro wS hSw
                obtain ⟨s1, ⟨s2, s3, s5⟩, s4⟩ := hSw
                obtain ⟨x0, x1, x2, x3, x4, -⟩ := s1.c
                obtain ⟨y0, y1, y2, y3, y4, -⟩ := s2.c
                obtain ⟨z0, z1, z2, z3, z4, -⟩ := s3.c
                have e0 := cell_bel s4 G0.out
                have e1 := cell_bel s4 G1.out
                have e2 := cell_bel s4 G2.out
                have e3 := cell_bel s4 G3.out
                have e4 := cell_bel s4 G4.out
                go_simp
                all_goals with_reducible rfl
              simp only [Act.put, List.setIfInBounds_toArray, List.set_cons_zero, List.set_cons_succ]
              refine wpAnyT_take (i := 2) (v := ?_) [3, 4, 13, 14, 15, 16, 17] (oi := { dst := some 44, op := Go.Op.move (Go.Operand.tmp 10), type := 9, pos := "low.go:339", after := #[], guard := none }) rfl (by kernel_rfl) (by kernel_rfl) (by kernel_rfl) (by kernel_rfl) (fun _ _ _ h => h) (Or.inl ⟨by rfl, ?_⟩) hHeld ?_
              rotate_left
              · intro wS hSw
                go_simp
                all_goals with_reducible rfl
              simp only [Act.put, List.setIfInBounds_toArray, List.set_cons_zero, List.set_cons_succ]
              refine wpAnyT_take (i := 5) (v := ?_) [6, 13, 14, 15, 16, 17] (oi := { dst := some 47, op := Go.Op.fieldAddr 25 (Go.Operand.tmp 7) 4, type := 0, pos := "low.go:339", after := #[], guard := none }) rfl (by kernel_rfl) (by kernel_rfl) (by kernel_rfl) (by kernel_rfl) (fun _ _ _ h => h) (Or.inl ⟨by rfl, ?_⟩) hHeld ?_
              rotate_left
              · intro wS hSw
                go_simp
                all_goals with_reducible rfl
              simp only [Act.put, List.setIfInBounds_toArray, List.set_cons_zero, List.set_cons_succ]
              refine wpAnyT_take (i := 6) (v := ?_) [13, 14, 15, 16, 17] (oi := { dst := some 48, op := Go.Op.load 23 (Go.Operand.tmp 47), type := 23, pos := "low.go:339", after := #[{ on := 5, ground := Go.Ground.data }], guard := none }) rfl (by kernel_rfl) (by kernel_rfl) (by kernel_rfl) (by kernel_rfl) (fun _ _ _ h => h) (Or.inl ⟨by rfl, ?_⟩) hHeld ?_
              rotate_left
              · intro wS hSw
                obtain ⟨s1, ⟨s2, s3, s5⟩, s4⟩ := hSw
                obtain ⟨x0, x1, x2, x3, x4, -⟩ := s1.c
                obtain ⟨y0, y1, y2, y3, y4, -⟩ := s2.c
                obtain ⟨z0, z1, z2, z3, z4, -⟩ := s3.c
                have e0 := cell_bel s4 G0.out
                have e1 := cell_bel s4 G1.out
                have e2 := cell_bel s4 G2.out
                have e3 := cell_bel s4 G3.out
                have e4 := cell_bel s4 G4.out
                go_simp
                all_goals with_reducible rfl
              simp only [Act.put, List.setIfInBounds_toArray, List.set_cons_zero, List.set_cons_succ]
              refine wpAnyT_take (i := 7) (v := ?_) [8, 10, 11, 12, 13, 15, 16, 17] (oi := { dst := some 49, op := Go.Op.fieldAddr 25 (Go.Operand.tmp 3) 4, type := 0, pos := "low.go:339", after := #[], guard := none }) rfl (by kernel_rfl) (by kernel_rfl) (by kernel_rfl) (by kernel_rfl) (fun _ _ _ h => h) (Or.inl ⟨by rfl, ?_⟩) hHeld ?_
              rotate_left
              · intro wS hSw
                go_simp
                all_goals with_reducible rfl
              simp only [Act.put, List.setIfInBounds_toArray, List.set_cons_zero, List.set_cons_succ]
              refine wpAnyT_take (i := 8) (v := ?_) [10, 11, 12, 13, 15, 16, 17] (oi := { dst := some 50, op := Go.Op.load 23 (Go.Operand.tmp 49), type := 23, pos := "low.go:339", after := #[{ on := 7, ground := Go.Ground.data }], guard := none }) rfl (by kernel_rfl) (by kernel_rfl) (by kernel_rfl) (by kernel_rfl) (fun _ _ _ h => h) (Or.inl ⟨by rfl, ?_⟩) hHeld ?_
              rotate_left
              · intro wS hSw
                obtain ⟨s1, ⟨s2, s3, s5⟩, s4⟩ := hSw
                obtain ⟨x0, x1, x2, x3, x4, -⟩ := s1.c
                obtain ⟨y0, y1, y2, y3, y4, -⟩ := s2.c
                obtain ⟨z0, z1, z2, z3, z4, -⟩ := s3.c
                have e0 := cell_bel s4 G0.out
                have e1 := cell_bel s4 G1.out
                have e2 := cell_bel s4 G2.out
                have e3 := cell_bel s4 G3.out
                have e4 := cell_bel s4 G4.out
                go_simp
                all_goals with_reducible rfl
              simp only [Act.put, List.setIfInBounds_toArray, List.set_cons_zero, List.set_cons_succ]
              refine wpAnyT_take (i := 9) (v := ?_) [10, 11, 12, 13, 15, 16, 17] (oi := { dst := some 51, op := Go.Op.move (Go.Operand.tmp 9), type := 3, pos := "low.go:339", after := #[], guard := none }) rfl (by kernel_rfl) (by kernel_rfl) (by kernel_rfl) (by kernel_rfl) (fun _ _ _ h => h) (Or.inl ⟨by rfl, ?_⟩) hHeld ?_
              rotate_left
              · intro wS hSw
                go_simp
                all_goals with_reducible rfl
              simp only [Act.put, List.setIfInBounds_toArray, List.set_cons_zero, List.set_cons_succ]
              refine wpAnyT_take (i := 10) (v := ?_) [11, 12, 13, 15, 16, 17] (oi := { dst := some 52, op := Go.Op.indexAddr 23 (Go.Operand.tmp 50) (Go.Operand.tmp 51), type := 0, pos := "low.go:339", after := #[{ on := 8, ground := Go.Ground.data }, { on := 9, ground := Go.Ground.data }], guard := none }) rfl (by kernel_rfl) (by kernel_rfl) (by kernel_rfl) (by kernel_rfl) (fun _ _ _ h => h) (Or.inl ⟨by rfl, ?_⟩) hHeld ?_
              rotate_left
              · intro wS hSw
                go_simp
                all_goals with_reducible rfl
              simp only [Act.put, List.setIfInBounds_toArray, List.set_cons_zero, List.set_cons_succ]
              refine wpAnyT_take (i := 11) (v := ?_) [12, 13, 15, 16, 17] (oi := { dst := some 53, op := Go.Op.load 25 (Go.Operand.tmp 52), type := 25, pos := "low.go:339", after := #[{ on := 10, ground := Go.Ground.data }], guard := none }) rfl (by kernel_rfl) (by kernel_rfl) (by kernel_rfl) (by kernel_rfl) (fun _ _ _ h => h) (Or.inl ⟨by rfl, ?_⟩) hHeld ?_
              rotate_left
              · intro wS hSw
                obtain ⟨s1, ⟨s2, s3, s5⟩, s4⟩ := hSw
                obtain ⟨x0, x1, x2, x3, x4, -⟩ := s1.c
                obtain ⟨y0, y1, y2, y3, y4, -⟩ := s2.c
                obtain ⟨z0, z1, z2, z3, z4, -⟩ := s3.c
                have e0 := cell_bel s4 G0.out
                have e1 := cell_bel s4 G1.out
                have e2 := cell_bel s4 G2.out
                have e3 := cell_bel s4 G3.out
                have e4 := cell_bel s4 G4.out
                go_simp
                all_goals with_reducible rfl
              simp only [Act.put, List.setIfInBounds_toArray, List.set_cons_zero, List.set_cons_succ]
              refine wpAnyT_ready (rs := [3, 12]) (by kernel_rfl) (by simp) ?_
              refine AllReadyT.cons (i := 3) (o := { dst := some 45, op := Go.Op.buildSlice 22 1 #[(0, Go.Operand.tmp 44)], type := 22, pos := "low.go:339", after := #[{ on := 2, ground := Go.Ground.data }], guard := none }) rfl (fun K hK => ?_) ?_
              · go_simp
                replace SOc := hidI (SOc.out.alloc HF.out (.cells #[.string ⟨t.keys[k].toArray⟩] 9))
                replace OEc := hidI (OEc.out.bel (bel_alloc _ (.cells #[.string ⟨t.keys[k].toArray⟩] 9)))
                replace hBc := Nat.le_trans hBc (bel_alloc _ (.cells #[.string ⟨t.keys[k].toArray⟩] 9)).size
                have NBK : Hid ((wc.alloc (.cells #[.string ⟨t.keys[k].toArray⟩] 9)).heap[wc.heap.size]? = some (.cells #[.string ⟨t.keys[k].toArray⟩] 9)) := hidI (heap_alloc_new _ _)
                refine hK.out _ _ (SOc.out.drew HF.out) (fun hHeld2 => ?_)
                clear hK K
                replace hHeld := hHeld2
                clear hHeld2
                try simp only [Act.put, List.setIfInBounds_toArray, List.set_cons_zero, List.set_cons_succ]
                refine wpAnyT_ready (rs := [4, 12]) (by kernel_rfl) (by simp) ?_
                refine AllReadyT.cons (i := 4) (o := { dst := some 46, op := Go.Op.call { callee := Go.Callee.builtin Go.Builtin.append, args := #[Go.Operand.tmp 43, Go.Operand.tmp 45], argTypes := #[22, 22] }, type := 22, pos := "low.go:339", after := #[{ on := 1, ground := Go.Ground.data }, { on := 3, ground := Go.Ground.data }], guard := none }) rfl (fun K hK => ?_) ?_
                · have OEd := hidI OEc.out.drew
                  have NBd : Hid (((wc.alloc (.cells #[.string ⟨t.keys[k].toArray⟩] 9)).drew).heap[wc.heap.size]? = some (.cells #[.string ⟨t.keys[k].toArray⟩] 9)) := hidI NBK.out
                  refine step_run (by rfl) (.tmp 43) (.tmp 45) 22 (by rfl) _ _ rfl rfl _ (fun ty => OEd.out.key NBd.out hnk (by exact hBc) ty) (fun v9 W9 hR => ?_)
                  obtain ⟨ho9, hg9, gK, cK, rfl⟩ := hR
                  replace SOc := hidI (hHeld.grown HF.out hg9 (fun g e => (OEd.out.kown g e).1))
                  refine hK.out _ _ SOc.out (fun hHeld2 => ?_)
                  replace OEc := hidI ho9
                  replace hBc := Nat.le_trans (by exact hBc) hg9.size
                  clear ho9 hg9 OEd NBd
                  clear hK K
                  replace hHeld := hHeld2
                  clear hHeld2
                  try simp only [Act.put, List.setIfInBounds_toArray, List.set_cons_zero, List.set_cons_succ]
                  refine wpAnyT_take (i := 14) (v := ?_) [15, 16, 17] (oi := { dst := some 56, op := Go.Op.fieldAddr 25 (Go.Operand.tmp 7) 3, type := 0, pos := "low.go:339", after := #[{ on := 0, ground := Go.Ground.phase }, { on := 1, ground := Go.Ground.phase }, { on := 2, ground := Go.Ground.phase }, { on := 3, ground := Go.Ground.phase }, { on := 4, ground := Go.Ground.phase }, { on := 5, ground := Go.Ground.phase }, { on := 6, ground := Go.Ground.phase }, { on := 7, ground := Go.Ground.textOnly Go.Departure.lateStores }, { on := 8, ground := Go.Ground.textOnly Go.Departure.lateStores }, { on := 9, ground := Go.Ground.textOnly Go.Departure.lateStores }, { on := 10, ground := Go.Ground.textOnly Go.Departure.lateStores }, { on := 11, ground := Go.Ground.textOnly Go.Departure.lateStores }, { on := 12, ground := Go.Ground.textOnly Go.Departure.lateStores }, { on := 13, ground := Go.Ground.textOnly Go.Departure.lateStoresUnsure }], guard := none }) rfl (by kernel_rfl) (by kernel_rfl) (by kernel_rfl) (by kernel_rfl) (fun _ _ _ h => h) (Or.inl ⟨by rfl, ?_⟩) hHeld ?_
                  rotate_left
                  · intro wS hSw
                    go_simp
                    all_goals with_reducible rfl
                  simp only [Act.put, List.setIfInBounds_toArray, List.set_cons_zero, List.set_cons_succ]
                  refine wpAnyT_ready (rs := [12]) (by kernel_rfl) (by simp) ?_
                  refine AllReadyT.cons (i := 12) (o := { dst := some 54, op := Go.Op.buildSlice 23 1 #[(0, Go.Operand.tmp 53)], type := 23, pos := "low.go:339", after := #[{ on := 11, ground := Go.Ground.data }], guard := none }) rfl (fun K hK => ?_) ?_
                  · go_simp
                    replace SOc := hidI (SOc.out.alloc HF.out (.cells #[.int .i64 t.l[k].kind, .int .i64 t.l[k].n, .string ⟨t.l[k].s.toArray⟩, .slice a5 t.l[k].keys.length c5, .slice a6 t.l[k].l.length c6] 25))
                    replace OEc := hidI (OEc.out.bel (bel_alloc _ (.cells #[.int .i64 t.l[k].kind, .int .i64 t.l[k].n, .string ⟨t.l[k].s.toArray⟩, .slice a5 t.l[k].keys.length c5, .slice a6 t.l[k].l.length c6] 25)))
                    replace hBc := Nat.le_trans hBc (bel_alloc _ (.cells #[.int .i64 t.l[k].kind, .int .i64 t.l[k].n, .string ⟨t.l[k].s.toArray⟩, .slice a5 t.l[k].keys.length c5, .slice a6 t.l[k].l.length c6] 25)).size
                    have NBV : Hid ((W9.alloc (.cells #[.int .i64 t.l[k].kind, .int .i64 t.l[k].n, .string ⟨t.l[k].s.toArray⟩, .slice a5 t.l[k].keys.length c5, .slice a6 t.l[k].l.length c6] 25)).heap[W9.heap.size]? = some (.cells #[.int .i64 t.l[k].kind, .int .i64 t.l[k].n, .string ⟨t.l[k].s.toArray⟩, .slice a5 t.l[k].keys.length c5, .slice a6 t.l[k].l.length c6] 25)) := hidI (heap_alloc_new _ _)
                    refine hK.out _ _ (SOc.out) (fun hHeld2 => ?_)
                    clear hK K
                    replace hHeld := hHeld2
                    clear hHeld2
                    try simp only [Act.put, List.setIfInBounds_toArray, List.set_cons_zero, List.set_cons_succ]
                    refine wpAnyT_ready (rs := [13]) (by kernel_rfl) (by simp) ?_
                    refine AllReadyT.cons (i := 13) (o := { dst := some 55, op := Go.Op.call { callee := Go.Callee.builtin Go.Builtin.append, args := #[Go.Operand.tmp 48, Go.Operand.tmp 54], argTypes := #[23, 23] }, type := 23, pos := "low.go:339", after := #[{ on := 6, ground := Go.Ground.data }, { on := 12, ground := Go.Ground.data }, { on := 4, ground := Go.Ground.chain }], guard := none }) rfl (fun K hK => ?_) ?_
                    · have OEd := hidI OEc.out
                      have HY2 := hidI (HY.out.bel OEd.out.below)
                      have NBd := hidI NBV.out
                      refine step_run (by rfl) (.tmp 48) (.tmp 54) 23 (by rfl) _ _ rfl rfl _ (fun ty => OEd.out.item NBd.out HY2.out hnl (by exact hBc) ty) (fun v9 W9 hR => ?_)
                      obtain ⟨ho9, hg9, gV, cV, rfl⟩ := hR
                      replace SOc := hidI (hHeld.grown HF.out hg9 (fun g e => (OEd.out.lown g e).1))
                      refine hK.out _ _ SOc.out (fun hHeld2 => ?_)
                      replace OEc := hidI ho9
                      replace hBc := Nat.le_trans (by exact hBc) hg9.size
                      clear ho9 hg9 OEd NBd
                      clear hK K
                      replace hHeld := hHeld2
                      clear hHeld2
                      try simp only [Act.put, List.setIfInBounds_toArray, List.set_cons_zero, List.set_cons_succ]
                      obtain ⟨o0, o1, o2, o3, o4, f0, f1, f2, f3, f4⟩ := hHeld.1.c
                      have HE := hidI hHeld
                      clear hHeld
                      refine wpAnyT_last (i := 15) (o := { dst := none, op := Go.Op.store 22 (Go.Operand.tmp 56) (Go.Operand.tmp 46), type := 0, pos := "low.go:339", after := #[{ on := 14, ground := Go.Ground.data }, { on := 4, ground := Go.Ground.data }, { on := 13, ground := Go.Ground.chain }, { on := 0, ground := Go.Ground.phase }, { on := 1, ground := Go.Ground.phase }, { on := 2, ground := Go.Ground.phase }, { on := 3, ground := Go.Ground.phase }, { on := 4, ground := Go.Ground.phase }, { on := 5, ground := Go.Ground.phase }, { on := 6, ground := Go.Ground.phase }, { on := 7, ground := Go.Ground.textOnly Go.Departure.lateStores }, { on := 8, ground := Go.Ground.textOnly Go.Departure.lateStores }, { on := 9, ground := Go.Ground.textOnly Go.Departure.lateStores }, { on := 10, ground := Go.Ground.textOnly Go.Departure.lateStores }, { on := 11, ground := Go.Ground.textOnly Go.Departure.lateStores }, { on := 12, ground := Go.Ground.textOnly Go.Departure.lateStores }, { on := 13, ground := Go.Ground.textOnly Go.Departure.lateStoresUnsure }], guard := none }) (by kernel_rfl) (by rfl) rfl (fun K hK => ?_)
                      go_simp
                      refine hK.out _ _ ?_
                      clear hK K
                      try simp only [Act.put, List.setIfInBounds_toArray, List.set_cons_zero, List.set_cons_succ]
                      refine wpAnyT_last (i := 16) (o := { dst := some 57, op := Go.Op.fieldAddr 25 (Go.Operand.tmp 7) 4, type := 0, pos := "low.go:339", after := #[{ on := 0, ground := Go.Ground.phase }, { on := 1, ground := Go.Ground.phase }, { on := 2, ground := Go.Ground.phase }, { on := 3, ground := Go.Ground.phase }, { on := 4, ground := Go.Ground.phase }, { on := 5, ground := Go.Ground.phase }, { on := 6, ground := Go.Ground.phase }, { on := 7, ground := Go.Ground.phase }, { on := 8, ground := Go.Ground.phase }, { on := 9, ground := Go.Ground.phase }, { on := 10, ground := Go.Ground.phase }, { on := 11, ground := Go.Ground.phase }, { on := 12, ground := Go.Ground.phase }, { on := 13, ground := Go.Ground.phase }, { on := 14, ground := Go.Ground.phase }, { on := 15, ground := Go.Ground.phase }], guard := none }) (by kernel_rfl) (by rfl) rfl (fun K hK => ?_)
                      go_simp
                      refine hK.out _ _ ?_
                      clear hK K
                      try simp only [Act.put, List.setIfInBounds_toArray, List.set_cons_zero, List.set_cons_succ]
                      refine wpAnyT_last (i := 17) (o := { dst := none, op := Go.Op.store 23 (Go.Operand.tmp 57) (Go.Operand.tmp 55), type := 0, pos := "low.go:339", after := #[{ on := 16, ground := Go.Ground.data }, { on := 13, ground := Go.Ground.data }, { on := 15, ground := Go.Ground.chain }, { on := 0, ground := Go.Ground.phase }, { on := 1, ground := Go.Ground.phase }, { on := 2, ground := Go.Ground.phase }, { on := 3, ground := Go.Ground.phase }, { on := 4, ground := Go.Ground.phase }, { on := 5, ground := Go.Ground.phase }, { on := 6, ground := Go.Ground.phase }, { on := 7, ground := Go.Ground.phase }, { on := 8, ground := Go.Ground.phase }, { on := 9, ground := Go.Ground.phase }, { on := 10, ground := Go.Ground.phase }, { on := 11, ground := Go.Ground.phase }, { on := 12, ground := Go.Ground.phase }, { on := 13, ground := Go.Ground.phase }, { on := 14, ground := Go.Ground.phase }, { on := 15, ground := Go.Ground.phase }], guard := none }) (by kernel_rfl) (by rfl) rfl (fun K hK => ?_)
                      go_simp
                      refine hK.out _ _ ?_
                      clear hK K
                      try simp only [Act.put, List.setIfInBounds_toArray, List.set_cons_zero, List.set_cons_succ]
                      refine wpAnyT_done (by kernel_rfl) ?_ _
                      go_wp2_with fail
                      go_roundg (t.keys.length - (k + 1))
                      case measure => rw [GK.out]; omega
                      case rel => exact ⟨k + 1, b, hlt, rfl, by go_num, rfl, wm_item hlt hlt' HNE.out HBL.out HPS.out HE.out (by have h9 := OEc.out; simp only [List.length_map] at h9; exact h9)⟩
                    exact AllReadyT.nil
                  exact AllReadyT.nil
                refine AllReadyT.cons (i := 12) (o := { dst := some 54, op := Go.Op.buildSlice 23 1 #[(0, Go.Operand.tmp 53)], type := 23, pos := "low.go:339", after := #[{ on := 11, ground := Go.Ground.data }], guard := none }) rfl (fun K hK => ?_) ?_
                · go_simp
                  replace SOc := hidI (SOc.out.alloc HF.out (.cells #[.int .i64 t.l[k].kind, .int .i64 t.l[k].n, .string ⟨t.l[k].s.toArray⟩, .slice a5 t.l[k].keys.length c5, .slice a6 t.l[k].l.length c6] 25))
                  replace OEc := hidI (OEc.out.bel (bel_alloc _ (.cells #[.int .i64 t.l[k].kind, .int .i64 t.l[k].n, .string ⟨t.l[k].s.toArray⟩, .slice a5 t.l[k].keys.length c5, .slice a6 t.l[k].l.length c6] 25)))
                  replace hBc := Nat.le_trans hBc (bel_alloc _ (.cells #[.int .i64 t.l[k].kind, .int .i64 t.l[k].n, .string ⟨t.l[k].s.toArray⟩, .slice a5 t.l[k].keys.length c5, .slice a6 t.l[k].l.length c6] 25)).size
                  clear NBK
                  have NBK : Hid (((wc.alloc (.cells #[.string ⟨t.keys[k].toArray⟩] 9)).alloc (.cells #[.int .i64 t.l[k].kind, .int .i64 t.l[k].n, .string ⟨t.l[k].s.toArray⟩, .slice a5 t.l[k].keys.length c5, .slice a6 t.l[k].l.length c6] 25)).heap[wc.heap.size]? = some (.cells #[.string ⟨t.keys[k].toArray⟩] 9)) := hidI (h2a _ _ _)
                  have NBV : Hid (((wc.alloc (.cells #[.string ⟨t.keys[k].toArray⟩] 9)).alloc (.cells #[.int .i64 t.l[k].kind, .int .i64 t.l[k].n, .string ⟨t.l[k].s.toArray⟩, .slice a5 t.l[k].keys.length c5, .slice a6 t.l[k].l.length c6] 25)).heap[wc.heap.size + 1]? = some (.cells #[.int .i64 t.l[k].kind, .int .i64 t.l[k].n, .string ⟨t.l[k].s.toArray⟩, .slice a5 t.l[k].keys.length c5, .slice a6 t.l[k].l.length c6] 25)) := hidI (h2b _ _ _)
                  refine hK.out _ _ (SOc.out.drew HF.out) (fun hHeld2 => ?_)
                  clear hK K
                  replace hHeld := hHeld2
                  clear hHeld2
                  try simp only [Act.put, List.setIfInBounds_toArray, List.set_cons_zero, List.set_cons_succ]
                  refine wpAnyT_ready (rs := [4]) (by kernel_rfl) (by simp) ?_
                  refine AllReadyT.cons (i := 4) (o := { dst := some 46, op := Go.Op.call { callee := Go.Callee.builtin Go.Builtin.append, args := #[Go.Operand.tmp 43, Go.Operand.tmp 45], argTypes := #[22, 22] }, type := 22, pos := "low.go:339", after := #[{ on := 1, ground := Go.Ground.data }, { on := 3, ground := Go.Ground.data }], guard := none }) rfl (fun K hK => ?_) ?_
                  · have OEd := hidI OEc.out.drew
                    have NBd : Hid ((((wc.alloc (.cells #[.string ⟨t.keys[k].toArray⟩] 9)).alloc (.cells #[.int .i64 t.l[k].kind, .int .i64 t.l[k].n, .string ⟨t.l[k].s.toArray⟩, .slice a5 t.l[k].keys.length c5, .slice a6 t.l[k].l.length c6] 25)).drew).heap[wc.heap.size]? = some (.cells #[.string ⟨t.keys[k].toArray⟩] 9)) := hidI NBK.out
                    refine step_run (by rfl) (.tmp 43) (.tmp 45) 22 (by rfl) _ _ rfl rfl _ (fun ty => OEd.out.key NBd.out hnk (by exact hBc) ty) (fun v9 W9 hR => ?_)
                    obtain ⟨ho9, hg9, gK, cK, rfl⟩ := hR
                    replace SOc := hidI (hHeld.grown HF.out hg9 (fun g e => (OEd.out.kown g e).1))
                    refine hK.out _ _ SOc.out (fun hHeld2 => ?_)
                    replace NBV := hidI (nb_grown ((by exact NBV.out : (((wc.alloc (.cells #[.string ⟨t.keys[k].toArray⟩] 9)).alloc (.cells #[.int .i64 t.l[k].kind, .int .i64 t.l[k].n, .string ⟨t.l[k].s.toArray⟩, .slice a5 t.l[k].keys.length c5, .slice a6 t.l[k].l.length c6] 25)).drew).heap[wc.heap.size + 1]? = some (.cells #[.int .i64 t.l[k].kind, .int .i64 t.l[k].n, .string ⟨t.l[k].s.toArray⟩, .slice a5 t.l[k].keys.length c5, .slice a6 t.l[k].l.length c6] 25))) hg9 (fun e => by have := LK.out _ e.symm; omega))
                    replace OEc := hidI ho9
                    replace hBc := Nat.le_trans (by exact hBc) hg9.size
                    clear ho9 hg9 OEd NBd
                    clear hK K
                    replace hHeld := hHeld2
                    clear hHeld2
                    try simp only [Act.put, List.setIfInBounds_toArray, List.set_cons_zero, List.set_cons_succ]
                    refine wpAnyT_take (i := 14) (v := ?_) [15, 16, 17] (oi := { dst := some 56, op := Go.Op.fieldAddr 25 (Go.Operand.tmp 7) 3, type := 0, pos := "low.go:339", after := #[{ on := 0, ground := Go.Ground.phase }, { on := 1, ground := Go.Ground.phase }, { on := 2, ground := Go.Ground.phase }, { on := 3, ground := Go.Ground.phase }, { on := 4, ground := Go.Ground.phase }, { on := 5, ground := Go.Ground.phase }, { on := 6, ground := Go.Ground.phase }, { on := 7, ground := Go.Ground.textOnly Go.Departure.lateStores }, { on := 8, ground := Go.Ground.textOnly Go.Departure.lateStores }, { on := 9, ground := Go.Ground.textOnly Go.Departure.lateStores }, { on := 10, ground := Go.Ground.textOnly Go.Departure.lateStores }, { on := 11, ground := Go.Ground.textOnly Go.Departure.lateStores }, { on := 12, ground := Go.Ground.textOnly Go.Departure.lateStores }, { on := 13, ground := Go.Ground.textOnly Go.Departure.lateStoresUnsure }], guard := none }) rfl (by kernel_rfl) (by kernel_rfl) (by kernel_rfl) (by kernel_rfl) (fun _ _ _ h => h) (Or.inl ⟨by rfl, ?_⟩) hHeld ?_
                    rotate_left
                    · intro wS hSw
                      go_simp
                      all_goals with_reducible rfl
                    simp only [Act.put, List.setIfInBounds_toArray, List.set_cons_zero, List.set_cons_succ]
                    refine wpAnyT_ready (rs := [13]) (by kernel_rfl) (by simp) ?_
                    refine AllReadyT.cons (i := 13) (o := { dst := some 55, op := Go.Op.call { callee := Go.Callee.builtin Go.Builtin.append, args := #[Go.Operand.tmp 48, Go.Operand.tmp 54], argTypes := #[23, 23] }, type := 23, pos := "low.go:339", after := #[{ on := 6, ground := Go.Ground.data }, { on := 12, ground := Go.Ground.data }, { on := 4, ground := Go.Ground.chain }], guard := none }) rfl (fun K hK => ?_) ?_
                    · have OEd := hidI OEc.out
                      have HY2 := hidI (HY.out.bel OEd.out.below)
                      have NBd := hidI NBV.out
                      refine step_run (by rfl) (.tmp 48) (.tmp 54) 23 (by rfl) _ _ rfl rfl _ (fun ty => OEd.out.item NBd.out HY2.out hnl (by exact hBc) ty) (fun v9 W9 hR => ?_)
                      obtain ⟨ho9, hg9, gV, cV, rfl⟩ := hR
                      replace SOc := hidI (hHeld.grown HF.out hg9 (fun g e => (OEd.out.lown g e).1))
                      refine hK.out _ _ SOc.out (fun hHeld2 => ?_)
                      replace OEc := hidI ho9
                      replace hBc := Nat.le_trans (by exact hBc) hg9.size
                      clear ho9 hg9 OEd NBd
                      clear hK K
                      replace hHeld := hHeld2
                      clear hHeld2
                      try simp only [Act.put, List.setIfInBounds_toArray, List.set_cons_zero, List.set_cons_succ]
                      obtain ⟨o0, o1, o2, o3, o4, f0, f1, f2, f3, f4⟩ := hHeld.1.c
                      have HE := hidI hHeld
                      clear hHeld
                      refine wpAnyT_last (i := 15) (o := { dst := none, op := Go.Op.store 22 (Go.Operand.tmp 56) (Go.Operand.tmp 46), type := 0, pos := "low.go:339", after := #[{ on := 14, ground := Go.Ground.data }, { on := 4, ground := Go.Ground.data }, { on := 13, ground := Go.Ground.chain }, { on := 0, ground := Go.Ground.phase }, { on := 1, ground := Go.Ground.phase }, { on := 2, ground := Go.Ground.phase }, { on := 3, ground := Go.Ground.phase }, { on := 4, ground := Go.Ground.phase }, { on := 5, ground := Go.Ground.phase }, { on := 6, ground := Go.Ground.phase }, { on := 7, ground := Go.Ground.textOnly Go.Departure.lateStores }, { on := 8, ground := Go.Ground.textOnly Go.Departure.lateStores }, { on := 9, ground := Go.Ground.textOnly Go.Departure.lateStores }, { on := 10, ground := Go.Ground.textOnly Go.Departure.lateStores }, { on := 11, ground := Go.Ground.textOnly Go.Departure.lateStores }, { on := 12, ground := Go.Ground.textOnly Go.Departure.lateStores }, { on := 13, ground := Go.Ground.textOnly Go.Departure.lateStoresUnsure }], guard := none }) (by kernel_rfl) (by rfl) rfl (fun K hK => ?_)
                      go_simp
                      refine hK.out _ _ ?_
                      clear hK K
                      try simp only [Act.put, List.setIfInBounds_toArray, List.set_cons_zero, List.set_cons_succ]
                      refine wpAnyT_last (i := 16) (o := { dst := some 57, op := Go.Op.fieldAddr 25 (Go.Operand.tmp 7) 4, type := 0, pos := "low.go:339", after := #[{ on := 0, ground := Go.Ground.phase }, { on := 1, ground := Go.Ground.phase }, { on := 2, ground := Go.Ground.phase }, { on := 3, ground := Go.Ground.phase }, { on := 4, ground := Go.Ground.phase }, { on := 5, ground := Go.Ground.phase }, { on := 6, ground := Go.Ground.phase }, { on := 7, ground := Go.Ground.phase }, { on := 8, ground := Go.Ground.phase }, { on := 9, ground := Go.Ground.phase }, { on := 10, ground := Go.Ground.phase }, { on := 11, ground := Go.Ground.phase }, { on := 12, ground := Go.Ground.phase }, { on := 13, ground := Go.Ground.phase }, { on := 14, ground := Go.Ground.phase }, { on := 15, ground := Go.Ground.phase }], guard := none }) (by kernel_rfl) (by rfl) rfl (fun K hK => ?_)
                      go_simp
                      refine hK.out _ _ ?_
                      clear hK K
                      try simp only [Act.put, List.setIfInBounds_toArray, List.set_cons_zero, List.set_cons_succ]
                      refine wpAnyT_last (i := 17) (o := { dst := none, op := Go.Op.store 23 (Go.Operand.tmp 57) (Go.Operand.tmp 55), type := 0, pos := "low.go:339", after := #[{ on := 16, ground := Go.Ground.data }, { on := 13, ground := Go.Ground.data }, { on := 15, ground := Go.Ground.chain }, { on := 0, ground := Go.Ground.phase }, { on := 1, ground := Go.Ground.phase }, { on := 2, ground := Go.Ground.phase }, { on := 3, ground := Go.Ground.phase }, { on := 4, ground := Go.Ground.phase }, { on := 5, ground := Go.Ground.phase }, { on := 6, ground := Go.Ground.phase }, { on := 7, ground := Go.Ground.phase }, { on := 8, ground := Go.Ground.phase }, { on := 9, ground := Go.Ground.phase }, { on := 10, ground := Go.Ground.phase }, { on := 11, ground := Go.Ground.phase }, { on := 12, ground := Go.Ground.phase }, { on := 13, ground := Go.Ground.phase }, { on := 14, ground := Go.Ground.phase }, { on := 15, ground := Go.Ground.phase }], guard := none }) (by kernel_rfl) (by rfl) rfl (fun K hK => ?_)
                      go_simp
                      refine hK.out _ _ ?_
                      clear hK K
                      try simp only [Act.put, List.setIfInBounds_toArray, List.set_cons_zero, List.set_cons_succ]
                      refine wpAnyT_done (by kernel_rfl) ?_ _
                      go_wp2_with fail
                      go_roundg (t.keys.length - (k + 1))
                      case measure => rw [GK.out]; omega
                      case rel => exact ⟨k + 1, b, hlt, rfl, by go_num, rfl, wm_item hlt hlt' HNE.out HBL.out HPS.out HE.out (by have h9 := OEc.out; simp only [List.length_map] at h9; exact h9)⟩
                    exact AllReadyT.nil
                  exact AllReadyT.nil
                exact AllReadyT.nil
              refine AllReadyT.cons (i := 12) (o := { dst := some 54, op := Go.Op.buildSlice 23 1 #[(0, Go.Operand.tmp 53)], type := 23, pos := "low.go:339", after := #[{ on := 11, ground := Go.Ground.data }], guard := none }) rfl (fun K hK => ?_) ?_
              · go_simp
                replace SOc := hidI (SOc.out.alloc HF.out (.cells #[.int .i64 t.l[k].kind, .int .i64 t.l[k].n, .string ⟨t.l[k].s.toArray⟩, .slice a5 t.l[k].keys.length c5, .slice a6 t.l[k].l.length c6] 25))
                replace OEc := hidI (OEc.out.bel (bel_alloc _ (.cells #[.int .i64 t.l[k].kind, .int .i64 t.l[k].n, .string ⟨t.l[k].s.toArray⟩, .slice a5 t.l[k].keys.length c5, .slice a6 t.l[k].l.length c6] 25)))
                replace hBc := Nat.le_trans hBc (bel_alloc _ (.cells #[.int .i64 t.l[k].kind, .int .i64 t.l[k].n, .string ⟨t.l[k].s.toArray⟩, .slice a5 t.l[k].keys.length c5, .slice a6 t.l[k].l.length c6] 25)).size
                have NBV : Hid ((wc.alloc (.cells #[.int .i64 t.l[k].kind, .int .i64 t.l[k].n, .string ⟨t.l[k].s.toArray⟩, .slice a5 t.l[k].keys.length c5, .slice a6 t.l[k].l.length c6] 25)).heap[wc.heap.size]? = some (.cells #[.int .i64 t.l[k].kind, .int .i64 t.l[k].n, .string ⟨t.l[k].s.toArray⟩, .slice a5 t.l[k].keys.length c5, .slice a6 t.l[k].l.length c6] 25)) := hidI (heap_alloc_new _ _)
                refine hK.out _ _ (SOc.out.drew HF.out) (fun hHeld2 => ?_)
                clear hK K
                replace hHeld := hHeld2
                clear hHeld2
                try simp only [Act.put, List.setIfInBounds_toArray, List.set_cons_zero, List.set_cons_succ]
                refine wpAnyT_ready (rs := [3]) (by kernel_rfl) (by simp) ?_
                refine AllReadyT.cons (i := 3) (o := { dst := some 45, op := Go.Op.buildSlice 22 1 #[(0, Go.Operand.tmp 44)], type := 22, pos := "low.go:339", after := #[{ on := 2, ground := Go.Ground.data }], guard := none }) rfl (fun K hK => ?_) ?_
                · go_simp
                  replace SOc := hidI (SOc.out.alloc HF.out (.cells #[.string ⟨t.keys[k].toArray⟩] 9))
                  replace OEc := hidI (OEc.out.bel (bel_alloc _ (.cells #[.string ⟨t.keys[k].toArray⟩] 9)))
                  replace hBc := Nat.le_trans hBc (bel_alloc _ (.cells #[.string ⟨t.keys[k].toArray⟩] 9)).size
                  clear NBV
                  have NBV : Hid (((wc.alloc (.cells #[.int .i64 t.l[k].kind, .int .i64 t.l[k].n, .string ⟨t.l[k].s.toArray⟩, .slice a5 t.l[k].keys.length c5, .slice a6 t.l[k].l.length c6] 25)).alloc (.cells #[.string ⟨t.keys[k].toArray⟩] 9)).heap[wc.heap.size]? = some (.cells #[.int .i64 t.l[k].kind, .int .i64 t.l[k].n, .string ⟨t.l[k].s.toArray⟩, .slice a5 t.l[k].keys.length c5, .slice a6 t.l[k].l.length c6] 25)) := hidI (h2a _ _ _)
                  have NBK : Hid (((wc.alloc (.cells #[.int .i64 t.l[k].kind, .int .i64 t.l[k].n, .string ⟨t.l[k].s.toArray⟩, .slice a5 t.l[k].keys.length c5, .slice a6 t.l[k].l.length c6] 25)).alloc (.cells #[.string ⟨t.keys[k].toArray⟩] 9)).heap[wc.heap.size + 1]? = some (.cells #[.string ⟨t.keys[k].toArray⟩] 9)) := hidI (h2b _ _ _)
                  refine hK.out _ _ (SOc.out.drew HF.out) (fun hHeld2 => ?_)
                  clear hK K
                  replace hHeld := hHeld2
                  clear hHeld2
                  try simp only [Act.put, List.setIfInBounds_toArray, List.set_cons_zero, List.set_cons_succ]
                  refine wpAnyT_ready (rs := [4]) (by kernel_rfl) (by simp) ?_
                  refine AllReadyT.cons (i := 4) (o := { dst := some 46, op := Go.Op.call { callee := Go.Callee.builtin Go.Builtin.append, args := #[Go.Operand.tmp 43, Go.Operand.tmp 45], argTypes := #[22, 22] }, type := 22, pos := "low.go:339", after := #[{ on := 1, ground := Go.Ground.data }, { on := 3, ground := Go.Ground.data }], guard := none }) rfl (fun K hK => ?_) ?_
                  · have OEd := hidI OEc.out.drew
                    have NBd : Hid ((((wc.alloc (.cells #[.int .i64 t.l[k].kind, .int .i64 t.l[k].n, .string ⟨t.l[k].s.toArray⟩, .slice a5 t.l[k].keys.length c5, .slice a6 t.l[k].l.length c6] 25)).alloc (.cells #[.string ⟨t.keys[k].toArray⟩] 9)).drew).heap[wc.heap.size + 1]? = some (.cells #[.string ⟨t.keys[k].toArray⟩] 9)) := hidI NBK.out
                    refine step_run (by rfl) (.tmp 43) (.tmp 45) 22 (by rfl) _ _ rfl rfl _ (fun ty => OEd.out.key NBd.out hnk (by exact hBc) ty) (fun v9 W9 hR => ?_)
                    obtain ⟨ho9, hg9, gK, cK, rfl⟩ := hR
                    replace SOc := hidI (hHeld.grown HF.out hg9 (fun g e => (OEd.out.kown g e).1))
                    refine hK.out _ _ SOc.out (fun hHeld2 => ?_)
                    replace NBV := hidI (nb_grown ((by exact NBV.out : (((wc.alloc (.cells #[.int .i64 t.l[k].kind, .int .i64 t.l[k].n, .string ⟨t.l[k].s.toArray⟩, .slice a5 t.l[k].keys.length c5, .slice a6 t.l[k].l.length c6] 25)).alloc (.cells #[.string ⟨t.keys[k].toArray⟩] 9)).drew).heap[wc.heap.size]? = some (.cells #[.int .i64 t.l[k].kind, .int .i64 t.l[k].n, .string ⟨t.l[k].s.toArray⟩, .slice a5 t.l[k].keys.length c5, .slice a6 t.l[k].l.length c6] 25))) hg9 (fun e => by have := LK.out _ e.symm; omega))
                    replace OEc := hidI ho9
                    replace hBc := Nat.le_trans (by exact hBc) hg9.size
                    clear ho9 hg9 OEd NBd
                    clear hK K
                    replace hHeld := hHeld2
                    clear hHeld2
                    try simp only [Act.put, List.setIfInBounds_toArray, List.set_cons_zero, List.set_cons_succ]
                    refine wpAnyT_take (i := 14) (v := ?_) [15, 16, 17] (oi := { dst := some 56, op := Go.Op.fieldAddr 25 (Go.Operand.tmp 7) 3, type := 0, pos := "low.go:339", after := #[{ on := 0, ground := Go.Ground.phase }, { on := 1, ground := Go.Ground.phase }, { on := 2, ground := Go.Ground.phase }, { on := 3, ground := Go.Ground.phase }, { on := 4, ground := Go.Ground.phase }, { on := 5, ground := Go.Ground.phase }, { on := 6, ground := Go.Ground.phase }, { on := 7, ground := Go.Ground.textOnly Go.Departure.lateStores }, { on := 8, ground := Go.Ground.textOnly Go.Departure.lateStores }, { on := 9, ground := Go.Ground.textOnly Go.Departure.lateStores }, { on := 10, ground := Go.Ground.textOnly Go.Departure.lateStores }, { on := 11, ground := Go.Ground.textOnly Go.Departure.lateStores }, { on := 12, ground := Go.Ground.textOnly Go.Departure.lateStores }, { on := 13, ground := Go.Ground.textOnly Go.Departure.lateStoresUnsure }], guard := none }) rfl (by kernel_rfl) (by kernel_rfl) (by kernel_rfl) (by kernel_rfl) (fun _ _ _ h => h) (Or.inl ⟨by rfl, ?_⟩) hHeld ?_
                    rotate_left
                    · intro wS hSw
                      go_simp
                      all_goals with_reducible rfl
                    simp only [Act.put, List.setIfInBounds_toArray, List.set_cons_zero, List.set_cons_succ]
                    refine wpAnyT_ready (rs := [13]) (by kernel_rfl) (by simp) ?_
                    refine AllReadyT.cons (i := 13) (o := { dst := some 55, op := Go.Op.call { callee := Go.Callee.builtin Go.Builtin.append, args := #[Go.Operand.tmp 48, Go.Operand.tmp 54], argTypes := #[23, 23] }, type := 23, pos := "low.go:339", after := #[{ on := 6, ground := Go.Ground.data }, { on := 12, ground := Go.Ground.data }, { on := 4, ground := Go.Ground.chain }], guard := none }) rfl (fun K hK => ?_) ?_
                    · have OEd := hidI OEc.out
                      have HY2 := hidI (HY.out.bel OEd.out.below)
                      have NBd := hidI NBV.out
                      refine step_run (by rfl) (.tmp 48) (.tmp 54) 23 (by rfl) _ _ rfl rfl _ (fun ty => OEd.out.item NBd.out HY2.out hnl (by exact hBc) ty) (fun v9 W9 hR => ?_)
                      obtain ⟨ho9, hg9, gV, cV, rfl⟩ := hR
                      replace SOc := hidI (hHeld.grown HF.out hg9 (fun g e => (OEd.out.lown g e).1))
                      refine hK.out _ _ SOc.out (fun hHeld2 => ?_)
                      replace OEc := hidI ho9
                      replace hBc := Nat.le_trans (by exact hBc) hg9.size
                      clear ho9 hg9 OEd NBd
                      clear hK K
                      replace hHeld := hHeld2
                      clear hHeld2
                      try simp only [Act.put, List.setIfInBounds_toArray, List.set_cons_zero, List.set_cons_succ]
                      obtain ⟨o0, o1, o2, o3, o4, f0, f1, f2, f3, f4⟩ := hHeld.1.c
                      have HE := hidI hHeld
                      clear hHeld
                      refine wpAnyT_last (i := 15) (o := { dst := none, op := Go.Op.store 22 (Go.Operand.tmp 56) (Go.Operand.tmp 46), type := 0, pos := "low.go:339", after := #[{ on := 14, ground := Go.Ground.data }, { on := 4, ground := Go.Ground.data }, { on := 13, ground := Go.Ground.chain }, { on := 0, ground := Go.Ground.phase }, { on := 1, ground := Go.Ground.phase }, { on := 2, ground := Go.Ground.phase }, { on := 3, ground := Go.Ground.phase }, { on := 4, ground := Go.Ground.phase }, { on := 5, ground := Go.Ground.phase }, { on := 6, ground := Go.Ground.phase }, { on := 7, ground := Go.Ground.textOnly Go.Departure.lateStores }, { on := 8, ground := Go.Ground.textOnly Go.Departure.lateStores }, { on := 9, ground := Go.Ground.textOnly Go.Departure.lateStores }, { on := 10, ground := Go.Ground.textOnly Go.Departure.lateStores }, { on := 11, ground := Go.Ground.textOnly Go.Departure.lateStores }, { on := 12, ground := Go.Ground.textOnly Go.Departure.lateStores }, { on := 13, ground := Go.Ground.textOnly Go.Departure.lateStoresUnsure }], guard := none }) (by kernel_rfl) (by rfl) rfl (fun K hK => ?_)
                      go_simp
                      refine hK.out _ _ ?_
                      clear hK K
                      try simp only [Act.put, List.setIfInBounds_toArray, List.set_cons_zero, List.set_cons_succ]
                      refine wpAnyT_last (i := 16) (o := { dst := some 57, op := Go.Op.fieldAddr 25 (Go.Operand.tmp 7) 4, type := 0, pos := "low.go:339", after := #[{ on := 0, ground := Go.Ground.phase }, { on := 1, ground := Go.Ground.phase }, { on := 2, ground := Go.Ground.phase }, { on := 3, ground := Go.Ground.phase }, { on := 4, ground := Go.Ground.phase }, { on := 5, ground := Go.Ground.phase }, { on := 6, ground := Go.Ground.phase }, { on := 7, ground := Go.Ground.phase }, { on := 8, ground := Go.Ground.phase }, { on := 9, ground := Go.Ground.phase }, { on := 10, ground := Go.Ground.phase }, { on := 11, ground := Go.Ground.phase }, { on := 12, ground := Go.Ground.phase }, { on := 13, ground := Go.Ground.phase }, { on := 14, ground := Go.Ground.phase }, { on := 15, ground := Go.Ground.phase }], guard := none }) (by kernel_rfl) (by rfl) rfl (fun K hK => ?_)
                      go_simp
                      refine hK.out _ _ ?_
                      clear hK K
                      try simp only [Act.put, List.setIfInBounds_toArray, List.set_cons_zero, List.set_cons_succ]
                      refine wpAnyT_last (i := 17) (o := { dst := none, op := Go.Op.store 23 (Go.Operand.tmp 57) (Go.Operand.tmp 55), type := 0, pos := "low.go:339", after := #[{ on := 16, ground := Go.Ground.data }, { on := 13, ground := Go.Ground.data }, { on := 15, ground := Go.Ground.chain }, { on := 0, ground := Go.Ground.phase }, { on := 1, ground := Go.Ground.phase }, { on := 2, ground := Go.Ground.phase }, { on := 3, ground := Go.Ground.phase }, { on := 4, ground := Go.Ground.phase }, { on := 5, ground := Go.Ground.phase }, { on := 6, ground := Go.Ground.phase }, { on := 7, ground := Go.Ground.phase }, { on := 8, ground := Go.Ground.phase }, { on := 9, ground := Go.Ground.phase }, { on := 10, ground := Go.Ground.phase }, { on := 11, ground := Go.Ground.phase }, { on := 12, ground := Go.Ground.phase }, { on := 13, ground := Go.Ground.phase }, { on := 14, ground := Go.Ground.phase }, { on := 15, ground := Go.Ground.phase }], guard := none }) (by kernel_rfl) (by rfl) rfl (fun K hK => ?_)
                      go_simp
                      refine hK.out _ _ ?_
                      clear hK K
                      try simp only [Act.put, List.setIfInBounds_toArray, List.set_cons_zero, List.set_cons_succ]
                      refine wpAnyT_done (by kernel_rfl) ?_ _
                      go_wp2_with fail
                      go_roundg (t.keys.length - (k + 1))
                      case measure => rw [GK.out]; omega
                      case rel => exact ⟨k + 1, b, hlt, rfl, by go_num, rfl, wm_item hlt hlt' HNE.out HBL.out HPS.out HE.out (by have h9 := OEc.out; simp only [List.length_map] at h9; exact h9)⟩
                    exact AllReadyT.nil
                  exact AllReadyT.nil
                exact AllReadyT.nil
              exact AllReadyT.nil
    · have hke : k = t.keys.length := by omega
      subst hke
      have d1 : ¬ (t.keys.length : Int) < (t.keys.length : Int) := by omega
      obtain ⟨ps, ⟨kv, lv, i1, i2, i4⟩, i3⟩ := II.out
      rw [List.drop_eq_nil_of_le (by simp; omega)] at i3
      cases b with
      | true =>
        obtain ⟨n1, n2, n3, n4, hk1, hk2⟩ := i2.forms
        rw [List.length_map] at hk1 hk2
        subst hk1
        subst hk2
        obtain ⟨Z1, Z2, Z3, Z4⟩ := wm_fin OB.out hkey VV.out.2 lk ⟨ps, by rw [← i3]; simp [wmF], i1, i2⟩
        have ZB := hidI Z4
        have Z := hidI (And.intro Z1 Z2)
        have Z0 := hidI Z3.1
        have O0 := hidI Z3.2
        clear Z1 Z2 Z3 Z4 i1 i2 i3 i4
        obtain ⟨z0, z1, z2, z3, z4, z5, z6, z7, z8, z9⟩ := Z0.out.c
        obtain ⟨o0, o1, o2, o3, o4, -⟩ := O0.out.c
        go_wp2_with fail
        obtain ⟨q0, q1, q2, q3, q4, -⟩ := ZB.out.c
        refine bodyPost_ret (v := .agg #[.int .i64 5, .int .i64 0, .string ⟨#[]⟩, .slice n1 ps.length n2, .slice n3 ps.length n4]) ?_ rfl ?_
        · simp only [set5] at q0 q1 q2 q3 q4
          simp [results, Tryd.results44, go_sem, q0, q1, q2, q3, q4]
        · exact ⟨_, rfl, Z.out.1, Z.out.2⟩
      | false =>
        have HPS : Hid (ps ++ [(key, x)] = wmF key x (t.keys.zip t.l) false) := hidI (by rw [← i3]; simp [wmF])
        have hpl : ps.length ≤ 100001 := by
          have h0 := congrArg List.length i3
          have h1 := wm_len (key := key) (x := x) (t.keys.zip t.l) false
          simp at h0 h1
          omega
        have hnk : (ps.map Prod.fst).length ≤ 1000000 := by rw [List.length_map]; omega
        have hnl : (ps.map Prod.snd).length ≤ 1000000 := by rw [List.length_map]; omega
        have OEc := hidI i2
        have hBc : w.heap.size + 3 + 1 ≤ wr.heap.size := i4
        have SOc := hidI i1
        have LK : Hid (∀ g, kv.ownBlock = some g → g < wr.heap.size) := hidI (fun g e => (i2.kown g e).2)
        have HY := HX
        clear i1 i2 i3 i4 hpl
        go_upto_region 13 with fail
        refine wp_region_T (SO w 3 (FM w t x a1 a2 a3 a4 c1 c2 c3 c4) kv lv) [11] (by kernel_rfl) (SOc.out.drew HF.out) (fun hHeld => ?_)
        refine wpAnyT_take (i := 0) (v := ?_) [1, 4, 9, 10, 11, 12, 13] (oi := { dst := some 61, op := Go.Op.fieldAddr 25 (Go.Operand.tmp 7) 3, type := 0, pos := "low.go:343", after := #[], guard := none }) rfl (by kernel_rfl) (by kernel_rfl) (by kernel_rfl) (by kernel_rfl) (fun _ _ _ h => h) (Or.inl ⟨by rfl, ?_⟩) hHeld ?_
        rotate_left
        · intro wS hSw
          go_simp
          all_goals with_reducible rfl
        simp only [Act.put, List.setIfInBounds_toArray, List.set_cons_zero, List.set_cons_succ]
        refine wpAnyT_take (i := 1) (v := ?_) [4, 9, 10, 11, 12, 13] (oi := { dst := some 62, op := Go.Op.load 22 (Go.Operand.tmp 61), type := 22, pos := "low.go:343", after := #[{ on := 0, ground := Go.Ground.data }], guard := none }) rfl (by kernel_rfl) (by kernel_rfl) (by kernel_rfl) (by kernel_rfl) (fun _ _ _ h => h) (Or.inl ⟨by rfl, ?_⟩) hHeld ?_
        rotate_left
        · intro wS hSw
          obtain ⟨s1, ⟨s2, s3, s5⟩, s4⟩ := hSw
          obtain ⟨x0, x1, x2, x3, x4, -⟩ := s1.c
          obtain ⟨y0, y1, y2, y3, y4, -⟩ := s2.c
          obtain ⟨z0, z1, z2, z3, z4, -⟩ := s3.c
          go_simp
          all_goals with_reducible rfl
        simp only [Act.put, List.setIfInBounds_toArray, List.set_cons_zero, List.set_cons_succ]
        refine wpAnyT_take (i := 2) (v := ?_) [3, 4, 9, 10, 11, 12, 13] (oi := { dst := some 63, op := Go.Op.move (Go.Operand.tmp 1), type := 9, pos := "low.go:343", after := #[], guard := none }) rfl (by kernel_rfl) (by kernel_rfl) (by kernel_rfl) (by kernel_rfl) (fun _ _ _ h => h) (Or.inl ⟨by rfl, ?_⟩) hHeld ?_
        rotate_left
        · intro wS hSw
          go_simp
          all_goals with_reducible rfl
        simp only [Act.put, List.setIfInBounds_toArray, List.set_cons_zero, List.set_cons_succ]
        refine wpAnyT_take (i := 5) (v := ?_) [6, 9, 10, 11, 12, 13] (oi := { dst := some 66, op := Go.Op.fieldAddr 25 (Go.Operand.tmp 7) 4, type := 0, pos := "low.go:343", after := #[], guard := none }) rfl (by kernel_rfl) (by kernel_rfl) (by kernel_rfl) (by kernel_rfl) (fun _ _ _ h => h) (Or.inl ⟨by rfl, ?_⟩) hHeld ?_
        rotate_left
        · intro wS hSw
          go_simp
          all_goals with_reducible rfl
        simp only [Act.put, List.setIfInBounds_toArray, List.set_cons_zero, List.set_cons_succ]
        refine wpAnyT_take (i := 6) (v := ?_) [9, 10, 11, 12, 13] (oi := { dst := some 67, op := Go.Op.load 23 (Go.Operand.tmp 66), type := 23, pos := "low.go:343", after := #[{ on := 5, ground := Go.Ground.data }], guard := none }) rfl (by kernel_rfl) (by kernel_rfl) (by kernel_rfl) (by kernel_rfl) (fun _ _ _ h => h) (Or.inl ⟨by rfl, ?_⟩) hHeld ?_
        rotate_left
        · intro wS hSw
          obtain ⟨s1, ⟨s2, s3, s5⟩, s4⟩ := hSw
          obtain ⟨x0, x1, x2, x3, x4, -⟩ := s1.c
          obtain ⟨y0, y1, y2, y3, y4, -⟩ := s2.c
          obtain ⟨z0, z1, z2, z3, z4, -⟩ := s3.c
          go_simp
          all_goals with_reducible rfl
        simp only [Act.put, List.setIfInBounds_toArray, List.set_cons_zero, List.set_cons_succ]
        refine wpAnyT_take (i := 7) (v := ?_) [8, 9, 11, 12, 13] (oi := { dst := some 68, op := Go.Op.load 25 (Go.Operand.tmp 5), type := 25, pos := "low.go:343", after := #[], guard := none }) rfl (by kernel_rfl) (by kernel_rfl) (by kernel_rfl) (by kernel_rfl) (fun _ _ _ h => h) (Or.inl ⟨by rfl, ?_⟩) hHeld ?_
        rotate_left
        · intro wS hSw
          obtain ⟨s1, ⟨s2, s3, s5⟩, s4⟩ := hSw
          obtain ⟨x0, x1, x2, x3, x4, -⟩ := s1.c
          obtain ⟨y0, y1, y2, y3, y4, -⟩ := s2.c
          obtain ⟨z0, z1, z2, z3, z4, -⟩ := s3.c
          go_simp
          all_goals with_reducible rfl
        simp only [Act.put, List.setIfInBounds_toArray, List.set_cons_zero, List.set_cons_succ]
        refine wpAnyT_ready (rs := [3, 8]) (by kernel_rfl) (by simp) ?_
        refine AllReadyT.cons (i := 3) (o := { dst := some 64, op := Go.Op.buildSlice 22 1 #[(0, Go.Operand.tmp 63)], type := 22, pos := "low.go:343", after := #[{ on := 2, ground := Go.Ground.data }], guard := none }) rfl (fun K hK => ?_) ?_
        · go_simp
          replace SOc := hidI (SOc.out.alloc HF.out (.cells #[.string ⟨key.toArray⟩] 9))
          replace OEc := hidI (OEc.out.bel (bel_alloc _ (.cells #[.string ⟨key.toArray⟩] 9)))
          replace hBc := Nat.le_trans hBc (bel_alloc _ (.cells #[.string ⟨key.toArray⟩] 9)).size
          have NBK : Hid ((wr.alloc (.cells #[.string ⟨key.toArray⟩] 9)).heap[wr.heap.size]? = some (.cells #[.string ⟨key.toArray⟩] 9)) := hidI (heap_alloc_new _ _)
          refine hK.out _ _ (SOc.out.drew HF.out) (fun hHeld2 => ?_)
          clear hK K
          replace hHeld := hHeld2
          clear hHeld2
          try simp only [Act.put, List.setIfInBounds_toArray, List.set_cons_zero, List.set_cons_succ]
          refine wpAnyT_ready (rs := [4, 8]) (by kernel_rfl) (by simp) ?_
          refine AllReadyT.cons (i := 4) (o := { dst := some 65, op := Go.Op.call { callee := Go.Callee.builtin Go.Builtin.append, args := #[Go.Operand.tmp 62, Go.Operand.tmp 64], argTypes := #[22, 22] }, type := 22, pos := "low.go:343", after := #[{ on := 1, ground := Go.Ground.data }, { on := 3, ground := Go.Ground.data }], guard := none }) rfl (fun K hK => ?_) ?_
          · have OEd := hidI OEc.out.drew
            have NBd : Hid (((wr.alloc (.cells #[.string ⟨key.toArray⟩] 9)).drew).heap[wr.heap.size]? = some (.cells #[.string ⟨key.toArray⟩] 9)) := hidI NBK.out
            refine step_run (by rfl) (.tmp 62) (.tmp 64) 22 (by rfl) _ _ rfl rfl _ (fun ty => OEd.out.key NBd.out hnk (by exact hBc) ty) (fun v9 W9 hR => ?_)
            obtain ⟨ho9, hg9, gK, cK, rfl⟩ := hR
            replace SOc := hidI (hHeld.grown HF.out hg9 (fun g e => (OEd.out.kown g e).1))
            refine hK.out _ _ SOc.out (fun hHeld2 => ?_)
            replace OEc := hidI ho9
            replace hBc := Nat.le_trans (by exact hBc) hg9.size
            clear ho9 hg9 OEd NBd
            clear hK K
            replace hHeld := hHeld2
            clear hHeld2
            try simp only [Act.put, List.setIfInBounds_toArray, List.set_cons_zero, List.set_cons_succ]
            refine wpAnyT_take (i := 10) (v := ?_) [11, 12, 13] (oi := { dst := some 71, op := Go.Op.fieldAddr 25 (Go.Operand.tmp 7) 3, type := 0, pos := "low.go:343", after := #[{ on := 0, ground := Go.Ground.phase }, { on := 1, ground := Go.Ground.phase }, { on := 2, ground := Go.Ground.phase }, { on := 3, ground := Go.Ground.phase }, { on := 4, ground := Go.Ground.phase }, { on := 5, ground := Go.Ground.phase }, { on := 6, ground := Go.Ground.phase }, { on := 7, ground := Go.Ground.textOnly Go.Departure.lateStores }, { on := 8, ground := Go.Ground.textOnly Go.Departure.lateStores }, { on := 9, ground := Go.Ground.textOnly Go.Departure.lateStoresUnsure }], guard := none }) rfl (by kernel_rfl) (by kernel_rfl) (by kernel_rfl) (by kernel_rfl) (fun _ _ _ h => h) (Or.inl ⟨by rfl, ?_⟩) hHeld ?_
            rotate_left
            · intro wS hSw
              go_simp
              all_goals with_reducible rfl
            simp only [Act.put, List.setIfInBounds_toArray, List.set_cons_zero, List.set_cons_succ]
            refine wpAnyT_ready (rs := [8]) (by kernel_rfl) (by simp) ?_
            refine AllReadyT.cons (i := 8) (o := { dst := some 69, op := Go.Op.buildSlice 23 1 #[(0, Go.Operand.tmp 68)], type := 23, pos := "low.go:343", after := #[{ on := 7, ground := Go.Ground.data }], guard := none }) rfl (fun K hK => ?_) ?_
            · go_simp
              replace SOc := hidI (SOc.out.alloc HF.out (.cells #[.int .i64 x.kind, .int .i64 x.n, .string ⟨x.s.toArray⟩, .slice a3 x.keys.length c3, .slice a4 x.l.length c4] 25))
              replace OEc := hidI (OEc.out.bel (bel_alloc _ (.cells #[.int .i64 x.kind, .int .i64 x.n, .string ⟨x.s.toArray⟩, .slice a3 x.keys.length c3, .slice a4 x.l.length c4] 25)))
              replace hBc := Nat.le_trans hBc (bel_alloc _ (.cells #[.int .i64 x.kind, .int .i64 x.n, .string ⟨x.s.toArray⟩, .slice a3 x.keys.length c3, .slice a4 x.l.length c4] 25)).size
              have NBV : Hid ((W9.alloc (.cells #[.int .i64 x.kind, .int .i64 x.n, .string ⟨x.s.toArray⟩, .slice a3 x.keys.length c3, .slice a4 x.l.length c4] 25)).heap[W9.heap.size]? = some (.cells #[.int .i64 x.kind, .int .i64 x.n, .string ⟨x.s.toArray⟩, .slice a3 x.keys.length c3, .slice a4 x.l.length c4] 25)) := hidI (heap_alloc_new _ _)
              refine hK.out _ _ (SOc.out) (fun hHeld2 => ?_)
              clear hK K
              replace hHeld := hHeld2
              clear hHeld2
              try simp only [Act.put, List.setIfInBounds_toArray, List.set_cons_zero, List.set_cons_succ]
              refine wpAnyT_ready (rs := [9]) (by kernel_rfl) (by simp) ?_
              refine AllReadyT.cons (i := 9) (o := { dst := some 70, op := Go.Op.call { callee := Go.Callee.builtin Go.Builtin.append, args := #[Go.Operand.tmp 67, Go.Operand.tmp 69], argTypes := #[23, 23] }, type := 23, pos := "low.go:343", after := #[{ on := 6, ground := Go.Ground.data }, { on := 8, ground := Go.Ground.data }, { on := 4, ground := Go.Ground.chain }], guard := none }) rfl (fun K hK => ?_) ?_
              · have OEd := hidI OEc.out
                have HY2 := hidI (HY.out.bel OEd.out.below)
                have NBd := hidI NBV.out
                refine step_run (by rfl) (.tmp 67) (.tmp 69) 23 (by rfl) _ _ rfl rfl _ (fun ty => OEd.out.item NBd.out HY2.out hnl (by exact hBc) ty) (fun v9 W9 hR => ?_)
                obtain ⟨ho9, hg9, gV, cV, rfl⟩ := hR
                replace SOc := hidI (hHeld.grown HF.out hg9 (fun g e => (OEd.out.lown g e).1))
                refine hK.out _ _ SOc.out (fun hHeld2 => ?_)
                replace OEc := hidI ho9
                replace hBc := Nat.le_trans (by exact hBc) hg9.size
                clear ho9 hg9 OEd NBd
                clear hK K
                replace hHeld := hHeld2
                clear hHeld2
                try simp only [Act.put, List.setIfInBounds_toArray, List.set_cons_zero, List.set_cons_succ]
                obtain ⟨o0, o1, o2, o3, o4, f0, f1, f2, f3, f4⟩ := hHeld.1.c
                have HE := hidI hHeld
                clear hHeld
                refine wpAnyT_last (i := 11) (o := { dst := none, op := Go.Op.store 22 (Go.Operand.tmp 71) (Go.Operand.tmp 65), type := 0, pos := "low.go:343", after := #[{ on := 10, ground := Go.Ground.data }, { on := 4, ground := Go.Ground.data }, { on := 9, ground := Go.Ground.chain }, { on := 0, ground := Go.Ground.phase }, { on := 1, ground := Go.Ground.phase }, { on := 2, ground := Go.Ground.phase }, { on := 3, ground := Go.Ground.phase }, { on := 4, ground := Go.Ground.phase }, { on := 5, ground := Go.Ground.phase }, { on := 6, ground := Go.Ground.phase }, { on := 7, ground := Go.Ground.textOnly Go.Departure.lateStores }, { on := 8, ground := Go.Ground.textOnly Go.Departure.lateStores }, { on := 9, ground := Go.Ground.textOnly Go.Departure.lateStoresUnsure }], guard := none }) (by kernel_rfl) (by rfl) rfl (fun K hK => ?_)
                go_simp
                refine hK.out _ _ ?_
                clear hK K
                try simp only [Act.put, List.setIfInBounds_toArray, List.set_cons_zero, List.set_cons_succ]
                refine wpAnyT_last (i := 12) (o := { dst := some 72, op := Go.Op.fieldAddr 25 (Go.Operand.tmp 7) 4, type := 0, pos := "low.go:343", after := #[{ on := 0, ground := Go.Ground.phase }, { on := 1, ground := Go.Ground.phase }, { on := 2, ground := Go.Ground.phase }, { on := 3, ground := Go.Ground.phase }, { on := 4, ground := Go.Ground.phase }, { on := 5, ground := Go.Ground.phase }, { on := 6, ground := Go.Ground.phase }, { on := 7, ground := Go.Ground.phase }, { on := 8, ground := Go.Ground.phase }, { on := 9, ground := Go.Ground.phase }, { on := 10, ground := Go.Ground.phase }, { on := 11, ground := Go.Ground.phase }], guard := none }) (by kernel_rfl) (by rfl) rfl (fun K hK => ?_)
                go_simp
                refine hK.out _ _ ?_
                clear hK K
                try simp only [Act.put, List.setIfInBounds_toArray, List.set_cons_zero, List.set_cons_succ]
                refine wpAnyT_last (i := 13) (o := { dst := none, op := Go.Op.store 23 (Go.Operand.tmp 72) (Go.Operand.tmp 70), type := 0, pos := "low.go:343", after := #[{ on := 12, ground := Go.Ground.data }, { on := 9, ground := Go.Ground.data }, { on := 11, ground := Go.Ground.chain }, { on := 0, ground := Go.Ground.phase }, { on := 1, ground := Go.Ground.phase }, { on := 2, ground := Go.Ground.phase }, { on := 3, ground := Go.Ground.phase }, { on := 4, ground := Go.Ground.phase }, { on := 5, ground := Go.Ground.phase }, { on := 6, ground := Go.Ground.phase }, { on := 7, ground := Go.Ground.phase }, { on := 8, ground := Go.Ground.phase }, { on := 9, ground := Go.Ground.phase }, { on := 10, ground := Go.Ground.phase }, { on := 11, ground := Go.Ground.phase }], guard := none }) (by kernel_rfl) (by rfl) rfl (fun K hK => ?_)
                go_simp
                refine hK.out _ _ ?_
                clear hK K
                try simp only [Act.put, List.setIfInBounds_toArray, List.set_cons_zero, List.set_cons_succ]
                refine wpAnyT_done (by kernel_rfl) ?_ _
                have h9 := OEc.out
                simp only [List.length_map] at h9
                obtain ⟨Z1, Z2, Z3, Z4⟩ := wm_fin OB.out hkey VV.out.2 lk (wm_end HPS.out HE.out h9)
                clear h9
                have ZB := hidI Z4
                have Z := hidI (And.intro Z1 Z2)
                have Z0 := hidI Z3.1
                have O0 := hidI Z3.2
                clear Z1 Z2 Z3 Z4
                obtain ⟨z0, z1, z2, z3, z4, z5, z6, z7, z8, z9⟩ := Z0.out.c
                obtain ⟨o0, o1, o2, o3, o4, -⟩ := O0.out.c
                go_wp2_with fail
                obtain ⟨q0, q1, q2, q3, q4, -⟩ := ZB.out.c
                refine bodyPost_ret (v := .agg #[.int .i64 5, .int .i64 0, .string ⟨#[]⟩, .slice (some ⟨gK, 0, none⟩) (ps.length + 1) cK, .slice (some ⟨gV, 0, none⟩) (ps.length + 1) cV]) ?_ rfl ?_
                · simp only [set5] at q0 q1 q2 q3 q4
                  simp [results, Tryd.results44, go_sem, q0, q1, q2, q3, q4]
                · exact ⟨_, rfl, Z.out.1, Z.out.2⟩
              exact AllReadyT.nil
            exact AllReadyT.nil
          refine AllReadyT.cons (i := 8) (o := { dst := some 69, op := Go.Op.buildSlice 23 1 #[(0, Go.Operand.tmp 68)], type := 23, pos := "low.go:343", after := #[{ on := 7, ground := Go.Ground.data }], guard := none }) rfl (fun K hK => ?_) ?_
          · go_simp
            replace SOc := hidI (SOc.out.alloc HF.out (.cells #[.int .i64 x.kind, .int .i64 x.n, .string ⟨x.s.toArray⟩, .slice a3 x.keys.length c3, .slice a4 x.l.length c4] 25))
            replace OEc := hidI (OEc.out.bel (bel_alloc _ (.cells #[.int .i64 x.kind, .int .i64 x.n, .string ⟨x.s.toArray⟩, .slice a3 x.keys.length c3, .slice a4 x.l.length c4] 25)))
            replace hBc := Nat.le_trans hBc (bel_alloc _ (.cells #[.int .i64 x.kind, .int .i64 x.n, .string ⟨x.s.toArray⟩, .slice a3 x.keys.length c3, .slice a4 x.l.length c4] 25)).size
            clear NBK
            have NBK : Hid (((wr.alloc (.cells #[.string ⟨key.toArray⟩] 9)).alloc (.cells #[.int .i64 x.kind, .int .i64 x.n, .string ⟨x.s.toArray⟩, .slice a3 x.keys.length c3, .slice a4 x.l.length c4] 25)).heap[wr.heap.size]? = some (.cells #[.string ⟨key.toArray⟩] 9)) := hidI (h2a _ _ _)
            have NBV : Hid (((wr.alloc (.cells #[.string ⟨key.toArray⟩] 9)).alloc (.cells #[.int .i64 x.kind, .int .i64 x.n, .string ⟨x.s.toArray⟩, .slice a3 x.keys.length c3, .slice a4 x.l.length c4] 25)).heap[wr.heap.size + 1]? = some (.cells #[.int .i64 x.kind, .int .i64 x.n, .string ⟨x.s.toArray⟩, .slice a3 x.keys.length c3, .slice a4 x.l.length c4] 25)) := hidI (h2b _ _ _)
            refine hK.out _ _ (SOc.out.drew HF.out) (fun hHeld2 => ?_)
            clear hK K
            replace hHeld := hHeld2
            clear hHeld2
            try simp only [Act.put, List.setIfInBounds_toArray, List.set_cons_zero, List.set_cons_succ]
            refine wpAnyT_ready (rs := [4]) (by kernel_rfl) (by simp) ?_
            refine AllReadyT.cons (i := 4) (o := { dst := some 65, op := Go.Op.call { callee := Go.Callee.builtin Go.Builtin.append, args := #[Go.Operand.tmp 62, Go.Operand.tmp 64], argTypes := #[22, 22] }, type := 22, pos := "low.go:343", after := #[{ on := 1, ground := Go.Ground.data }, { on := 3, ground := Go.Ground.data }], guard := none }) rfl (fun K hK => ?_) ?_
            · have OEd := hidI OEc.out.drew
              have NBd : Hid ((((wr.alloc (.cells #[.string ⟨key.toArray⟩] 9)).alloc (.cells #[.int .i64 x.kind, .int .i64 x.n, .string ⟨x.s.toArray⟩, .slice a3 x.keys.length c3, .slice a4 x.l.length c4] 25)).drew).heap[wr.heap.size]? = some (.cells #[.string ⟨key.toArray⟩] 9)) := hidI NBK.out
              refine step_run (by rfl) (.tmp 62) (.tmp 64) 22 (by rfl) _ _ rfl rfl _ (fun ty => OEd.out.key NBd.out hnk (by exact hBc) ty) (fun v9 W9 hR => ?_)
              obtain ⟨ho9, hg9, gK, cK, rfl⟩ := hR
              replace SOc := hidI (hHeld.grown HF.out hg9 (fun g e => (OEd.out.kown g e).1))
              refine hK.out _ _ SOc.out (fun hHeld2 => ?_)
              replace NBV := hidI (nb_grown ((by exact NBV.out : (((wr.alloc (.cells #[.string ⟨key.toArray⟩] 9)).alloc (.cells #[.int .i64 x.kind, .int .i64 x.n, .string ⟨x.s.toArray⟩, .slice a3 x.keys.length c3, .slice a4 x.l.length c4] 25)).drew).heap[wr.heap.size + 1]? = some (.cells #[.int .i64 x.kind, .int .i64 x.n, .string ⟨x.s.toArray⟩, .slice a3 x.keys.length c3, .slice a4 x.l.length c4] 25))) hg9 (fun e => by have := LK.out _ e.symm; omega))
              replace OEc := hidI ho9
              replace hBc := Nat.le_trans (by exact hBc) hg9.size
              clear ho9 hg9 OEd NBd
              clear hK K
              replace hHeld := hHeld2
              clear hHeld2
              try simp only [Act.put, List.setIfInBounds_toArray, List.set_cons_zero, List.set_cons_succ]
              refine wpAnyT_take (i := 10) (v := ?_) [11, 12, 13] (oi := { dst := some 71, op := Go.Op.fieldAddr 25 (Go.Operand.tmp 7) 3, type := 0, pos := "low.go:343", after := #[{ on := 0, ground := Go.Ground.phase }, { on := 1, ground := Go.Ground.phase }, { on := 2, ground := Go.Ground.phase }, { on := 3, ground := Go.Ground.phase }, { on := 4, ground := Go.Ground.phase }, { on := 5, ground := Go.Ground.phase }, { on := 6, ground := Go.Ground.phase }, { on := 7, ground := Go.Ground.textOnly Go.Departure.lateStores }, { on := 8, ground := Go.Ground.textOnly Go.Departure.lateStores }, { on := 9, ground := Go.Ground.textOnly Go.Departure.lateStoresUnsure }], guard := none }) rfl (by kernel_rfl) (by kernel_rfl) (by kernel_rfl) (by kernel_rfl) (fun _ _ _ h => h) (Or.inl ⟨by rfl, ?_⟩) hHeld ?_
              rotate_left
              · intro wS hSw
                go_simp
                all_goals with_reducible rfl
              simp only [Act.put, List.setIfInBounds_toArray, List.set_cons_zero, List.set_cons_succ]
              refine wpAnyT_ready (rs := [9]) (by kernel_rfl) (by simp) ?_
              refine AllReadyT.cons (i := 9) (o := { dst := some 70, op := Go.Op.call { callee := Go.Callee.builtin Go.Builtin.append, args := #[Go.Operand.tmp 67, Go.Operand.tmp 69], argTypes := #[23, 23] }, type := 23, pos := "low.go:343", after := #[{ on := 6, ground := Go.Ground.data }, { on := 8, ground := Go.Ground.data }, { on := 4, ground := Go.Ground.chain }], guard := none }) rfl (fun K hK => ?_) ?_
              · have OEd := hidI OEc.out
                have HY2 := hidI (HY.out.bel OEd.out.below)
                have NBd := hidI NBV.out
                refine step_run (by rfl) (.tmp 67) (.tmp 69) 23 (by rfl) _ _ rfl rfl _ (fun ty => OEd.out.item NBd.out HY2.out hnl (by exact hBc) ty) (fun v9 W9 hR => ?_)
                obtain ⟨ho9, hg9, gV, cV, rfl⟩ := hR
                replace SOc := hidI (hHeld.grown HF.out hg9 (fun g e => (OEd.out.lown g e).1))
                refine hK.out _ _ SOc.out (fun hHeld2 => ?_)
                replace OEc := hidI ho9
                replace hBc := Nat.le_trans (by exact hBc) hg9.size
                clear ho9 hg9 OEd NBd
                clear hK K
                replace hHeld := hHeld2
                clear hHeld2
                try simp only [Act.put, List.setIfInBounds_toArray, List.set_cons_zero, List.set_cons_succ]
                obtain ⟨o0, o1, o2, o3, o4, f0, f1, f2, f3, f4⟩ := hHeld.1.c
                have HE := hidI hHeld
                clear hHeld
                refine wpAnyT_last (i := 11) (o := { dst := none, op := Go.Op.store 22 (Go.Operand.tmp 71) (Go.Operand.tmp 65), type := 0, pos := "low.go:343", after := #[{ on := 10, ground := Go.Ground.data }, { on := 4, ground := Go.Ground.data }, { on := 9, ground := Go.Ground.chain }, { on := 0, ground := Go.Ground.phase }, { on := 1, ground := Go.Ground.phase }, { on := 2, ground := Go.Ground.phase }, { on := 3, ground := Go.Ground.phase }, { on := 4, ground := Go.Ground.phase }, { on := 5, ground := Go.Ground.phase }, { on := 6, ground := Go.Ground.phase }, { on := 7, ground := Go.Ground.textOnly Go.Departure.lateStores }, { on := 8, ground := Go.Ground.textOnly Go.Departure.lateStores }, { on := 9, ground := Go.Ground.textOnly Go.Departure.lateStoresUnsure }], guard := none }) (by kernel_rfl) (by rfl) rfl (fun K hK => ?_)
                go_simp
                refine hK.out _ _ ?_
                clear hK K
                try simp only [Act.put, List.setIfInBounds_toArray, List.set_cons_zero, List.set_cons_succ]
                refine wpAnyT_last (i := 12) (o := { dst := some 72, op := Go.Op.fieldAddr 25 (Go.Operand.tmp 7) 4, type := 0, pos := "low.go:343", after := #[{ on := 0, ground := Go.Ground.phase }, { on := 1, ground := Go.Ground.phase }, { on := 2, ground := Go.Ground.phase }, { on := 3, ground := Go.Ground.phase }, { on := 4, ground := Go.Ground.phase }, { on := 5, ground := Go.Ground.phase }, { on := 6, ground := Go.Ground.phase }, { on := 7, ground := Go.Ground.phase }, { on := 8, ground := Go.Ground.phase }, { on := 9, ground := Go.Ground.phase }, { on := 10, ground := Go.Ground.phase }, { on := 11, ground := Go.Ground.phase }], guard := none }) (by kernel_rfl) (by rfl) rfl (fun K hK => ?_)
                go_simp
                refine hK.out _ _ ?_
                clear hK K
                try simp only [Act.put, List.setIfInBounds_toArray, List.set_cons_zero, List.set_cons_succ]
                refine wpAnyT_last (i := 13) (o := { dst := none, op := Go.Op.store 23 (Go.Operand.tmp 72) (Go.Operand.tmp 70), type := 0, pos := "low.go:343", after := #[{ on := 12, ground := Go.Ground.data }, { on := 9, ground := Go.Ground.data }, { on := 11, ground := Go.Ground.chain }, { on := 0, ground := Go.Ground.phase }, { on := 1, ground := Go.Ground.phase }, { on := 2, ground := Go.Ground.phase }, { on := 3, ground := Go.Ground.phase }, { on := 4, ground := Go.Ground.phase }, { on := 5, ground := Go.Ground.phase }, { on := 6, ground := Go.Ground.phase }, { on := 7, ground := Go.Ground.phase }, { on := 8, ground := Go.Ground.phase }, { on := 9, ground := Go.Ground.phase }, { on := 10, ground := Go.Ground.phase }, { on := 11, ground := Go.Ground.phase }], guard := none }) (by kernel_rfl) (by rfl) rfl (fun K hK => ?_)
                go_simp
                refine hK.out _ _ ?_
                clear hK K
                try simp only [Act.put, List.setIfInBounds_toArray, List.set_cons_zero, List.set_cons_succ]
                refine wpAnyT_done (by kernel_rfl) ?_ _
                have h9 := OEc.out
                simp only [List.length_map] at h9
                obtain ⟨Z1, Z2, Z3, Z4⟩ := wm_fin OB.out hkey VV.out.2 lk (wm_end HPS.out HE.out h9)
                clear h9
                have ZB := hidI Z4
                have Z := hidI (And.intro Z1 Z2)
                have Z0 := hidI Z3.1
                have O0 := hidI Z3.2
                clear Z1 Z2 Z3 Z4
                obtain ⟨z0, z1, z2, z3, z4, z5, z6, z7, z8, z9⟩ := Z0.out.c
                obtain ⟨o0, o1, o2, o3, o4, -⟩ := O0.out.c
                go_wp2_with fail
                obtain ⟨q0, q1, q2, q3, q4, -⟩ := ZB.out.c
                refine bodyPost_ret (v := .agg #[.int .i64 5, .int .i64 0, .string ⟨#[]⟩, .slice (some ⟨gK, 0, none⟩) (ps.length + 1) cK, .slice (some ⟨gV, 0, none⟩) (ps.length + 1) cV]) ?_ rfl ?_
                · simp only [set5] at q0 q1 q2 q3 q4
                  simp [results, Tryd.results44, go_sem, q0, q1, q2, q3, q4]
                · exact ⟨_, rfl, Z.out.1, Z.out.2⟩
              exact AllReadyT.nil
            exact AllReadyT.nil
          exact AllReadyT.nil
        refine AllReadyT.cons (i := 8) (o := { dst := some 69, op := Go.Op.buildSlice 23 1 #[(0, Go.Operand.tmp 68)], type := 23, pos := "low.go:343", after := #[{ on := 7, ground := Go.Ground.data }], guard := none }) rfl (fun K hK => ?_) ?_
        · go_simp
          replace SOc := hidI (SOc.out.alloc HF.out (.cells #[.int .i64 x.kind, .int .i64 x.n, .string ⟨x.s.toArray⟩, .slice a3 x.keys.length c3, .slice a4 x.l.length c4] 25))
          replace OEc := hidI (OEc.out.bel (bel_alloc _ (.cells #[.int .i64 x.kind, .int .i64 x.n, .string ⟨x.s.toArray⟩, .slice a3 x.keys.length c3, .slice a4 x.l.length c4] 25)))
          replace hBc := Nat.le_trans hBc (bel_alloc _ (.cells #[.int .i64 x.kind, .int .i64 x.n, .string ⟨x.s.toArray⟩, .slice a3 x.keys.length c3, .slice a4 x.l.length c4] 25)).size
          have NBV : Hid ((wr.alloc (.cells #[.int .i64 x.kind, .int .i64 x.n, .string ⟨x.s.toArray⟩, .slice a3 x.keys.length c3, .slice a4 x.l.length c4] 25)).heap[wr.heap.size]? = some (.cells #[.int .i64 x.kind, .int .i64 x.n, .string ⟨x.s.toArray⟩, .slice a3 x.keys.length c3, .slice a4 x.l.length c4] 25)) := hidI (heap_alloc_new _ _)
          refine hK.out _ _ (SOc.out.drew HF.out) (fun hHeld2 => ?_)
          clear hK K
          replace hHeld := hHeld2
          clear hHeld2
          try simp only [Act.put, List.setIfInBounds_toArray, List.set_cons_zero, List.set_cons_succ]
          refine wpAnyT_ready (rs := [3]) (by kernel_rfl) (by simp) ?_
          refine AllReadyT.cons (i := 3) (o := { dst := some 64, op := Go.Op.buildSlice 22 1 #[(0, Go.Operand.tmp 63)], type := 22, pos := "low.go:343", after := #[{ on := 2, ground := Go.Ground.data }], guard := none }) rfl (fun K hK => ?_) ?_
          · go_simp
            replace SOc := hidI (SOc.out.alloc HF.out (.cells #[.string ⟨key.toArray⟩] 9))
            replace OEc := hidI (OEc.out.bel (bel_alloc _ (.cells #[.string ⟨key.toArray⟩] 9)))
            replace hBc := Nat.le_trans hBc (bel_alloc _ (.cells #[.string ⟨key.toArray⟩] 9)).size
            clear NBV
            have NBV : Hid (((wr.alloc (.cells #[.int .i64 x.kind, .int .i64 x.n, .string ⟨x.s.toArray⟩, .slice a3 x.keys.length c3, .slice a4 x.l.length c4] 25)).alloc (.cells #[.string ⟨key.toArray⟩] 9)).heap[wr.heap.size]? = some (.cells #[.int .i64 x.kind, .int .i64 x.n, .string ⟨x.s.toArray⟩, .slice a3 x.keys.length c3, .slice a4 x.l.length c4] 25)) := hidI (h2a _ _ _)
            have NBK : Hid (((wr.alloc (.cells #[.int .i64 x.kind, .int .i64 x.n, .string ⟨x.s.toArray⟩, .slice a3 x.keys.length c3, .slice a4 x.l.length c4] 25)).alloc (.cells #[.string ⟨key.toArray⟩] 9)).heap[wr.heap.size + 1]? = some (.cells #[.string ⟨key.toArray⟩] 9)) := hidI (h2b _ _ _)
            refine hK.out _ _ (SOc.out.drew HF.out) (fun hHeld2 => ?_)
            clear hK K
            replace hHeld := hHeld2
            clear hHeld2
            try simp only [Act.put, List.setIfInBounds_toArray, List.set_cons_zero, List.set_cons_succ]
            refine wpAnyT_ready (rs := [4]) (by kernel_rfl) (by simp) ?_
            refine AllReadyT.cons (i := 4) (o := { dst := some 65, op := Go.Op.call { callee := Go.Callee.builtin Go.Builtin.append, args := #[Go.Operand.tmp 62, Go.Operand.tmp 64], argTypes := #[22, 22] }, type := 22, pos := "low.go:343", after := #[{ on := 1, ground := Go.Ground.data }, { on := 3, ground := Go.Ground.data }], guard := none }) rfl (fun K hK => ?_) ?_
            · have OEd := hidI OEc.out.drew
              have NBd : Hid ((((wr.alloc (.cells #[.int .i64 x.kind, .int .i64 x.n, .string ⟨x.s.toArray⟩, .slice a3 x.keys.length c3, .slice a4 x.l.length c4] 25)).alloc (.cells #[.string ⟨key.toArray⟩] 9)).drew).heap[wr.heap.size + 1]? = some (.cells #[.string ⟨key.toArray⟩] 9)) := hidI NBK.out
              refine step_run (by rfl) (.tmp 62) (.tmp 64) 22 (by rfl) _ _ rfl rfl _ (fun ty => OEd.out.key NBd.out hnk (by exact hBc) ty) (fun v9 W9 hR => ?_)
              obtain ⟨ho9, hg9, gK, cK, rfl⟩ := hR
              replace SOc := hidI (hHeld.grown HF.out hg9 (fun g e => (OEd.out.kown g e).1))
              refine hK.out _ _ SOc.out (fun hHeld2 => ?_)
              replace NBV := hidI (nb_grown ((by exact NBV.out : (((wr.alloc (.cells #[.int .i64 x.kind, .int .i64 x.n, .string ⟨x.s.toArray⟩, .slice a3 x.keys.length c3, .slice a4 x.l.length c4] 25)).alloc (.cells #[.string ⟨key.toArray⟩] 9)).drew).heap[wr.heap.size]? = some (.cells #[.int .i64 x.kind, .int .i64 x.n, .string ⟨x.s.toArray⟩, .slice a3 x.keys.length c3, .slice a4 x.l.length c4] 25))) hg9 (fun e => by have := LK.out _ e.symm; omega))
              replace OEc := hidI ho9
              replace hBc := Nat.le_trans (by exact hBc) hg9.size
              clear ho9 hg9 OEd NBd
              clear hK K
              replace hHeld := hHeld2
              clear hHeld2
              try simp only [Act.put, List.setIfInBounds_toArray, List.set_cons_zero, List.set_cons_succ]
              refine wpAnyT_take (i := 10) (v := ?_) [11, 12, 13] (oi := { dst := some 71, op := Go.Op.fieldAddr 25 (Go.Operand.tmp 7) 3, type := 0, pos := "low.go:343", after := #[{ on := 0, ground := Go.Ground.phase }, { on := 1, ground := Go.Ground.phase }, { on := 2, ground := Go.Ground.phase }, { on := 3, ground := Go.Ground.phase }, { on := 4, ground := Go.Ground.phase }, { on := 5, ground := Go.Ground.phase }, { on := 6, ground := Go.Ground.phase }, { on := 7, ground := Go.Ground.textOnly Go.Departure.lateStores }, { on := 8, ground := Go.Ground.textOnly Go.Departure.lateStores }, { on := 9, ground := Go.Ground.textOnly Go.Departure.lateStoresUnsure }], guard := none }) rfl (by kernel_rfl) (by kernel_rfl) (by kernel_rfl) (by kernel_rfl) (fun _ _ _ h => h) (Or.inl ⟨by rfl, ?_⟩) hHeld ?_
              rotate_left
              · intro wS hSw
                go_simp
                all_goals with_reducible rfl
              simp only [Act.put, List.setIfInBounds_toArray, List.set_cons_zero, List.set_cons_succ]
              refine wpAnyT_ready (rs := [9]) (by kernel_rfl) (by simp) ?_
              refine AllReadyT.cons (i := 9) (o := { dst := some 70, op := Go.Op.call { callee := Go.Callee.builtin Go.Builtin.append, args := #[Go.Operand.tmp 67, Go.Operand.tmp 69], argTypes := #[23, 23] }, type := 23, pos := "low.go:343", after := #[{ on := 6, ground := Go.Ground.data }, { on := 8, ground := Go.Ground.data }, { on := 4, ground := Go.Ground.chain }], guard := none }) rfl (fun K hK => ?_) ?_
              · have OEd := hidI OEc.out
                have HY2 := hidI (HY.out.bel OEd.out.below)
                have NBd := hidI NBV.out
                refine step_run (by rfl) (.tmp 67) (.tmp 69) 23 (by rfl) _ _ rfl rfl _ (fun ty => OEd.out.item NBd.out HY2.out hnl (by exact hBc) ty) (fun v9 W9 hR => ?_)
                obtain ⟨ho9, hg9, gV, cV, rfl⟩ := hR
                replace SOc := hidI (hHeld.grown HF.out hg9 (fun g e => (OEd.out.lown g e).1))
                refine hK.out _ _ SOc.out (fun hHeld2 => ?_)
                replace OEc := hidI ho9
                replace hBc := Nat.le_trans (by exact hBc) hg9.size
                clear ho9 hg9 OEd NBd
                clear hK K
                replace hHeld := hHeld2
                clear hHeld2
                try simp only [Act.put, List.setIfInBounds_toArray, List.set_cons_zero, List.set_cons_succ]
                obtain ⟨o0, o1, o2, o3, o4, f0, f1, f2, f3, f4⟩ := hHeld.1.c
                have HE := hidI hHeld
                clear hHeld
                refine wpAnyT_last (i := 11) (o := { dst := none, op := Go.Op.store 22 (Go.Operand.tmp 71) (Go.Operand.tmp 65), type := 0, pos := "low.go:343", after := #[{ on := 10, ground := Go.Ground.data }, { on := 4, ground := Go.Ground.data }, { on := 9, ground := Go.Ground.chain }, { on := 0, ground := Go.Ground.phase }, { on := 1, ground := Go.Ground.phase }, { on := 2, ground := Go.Ground.phase }, { on := 3, ground := Go.Ground.phase }, { on := 4, ground := Go.Ground.phase }, { on := 5, ground := Go.Ground.phase }, { on := 6, ground := Go.Ground.phase }, { on := 7, ground := Go.Ground.textOnly Go.Departure.lateStores }, { on := 8, ground := Go.Ground.textOnly Go.Departure.lateStores }, { on := 9, ground := Go.Ground.textOnly Go.Departure.lateStoresUnsure }], guard := none }) (by kernel_rfl) (by rfl) rfl (fun K hK => ?_)
                go_simp
                refine hK.out _ _ ?_
                clear hK K
                try simp only [Act.put, List.setIfInBounds_toArray, List.set_cons_zero, List.set_cons_succ]
                refine wpAnyT_last (i := 12) (o := { dst := some 72, op := Go.Op.fieldAddr 25 (Go.Operand.tmp 7) 4, type := 0, pos := "low.go:343", after := #[{ on := 0, ground := Go.Ground.phase }, { on := 1, ground := Go.Ground.phase }, { on := 2, ground := Go.Ground.phase }, { on := 3, ground := Go.Ground.phase }, { on := 4, ground := Go.Ground.phase }, { on := 5, ground := Go.Ground.phase }, { on := 6, ground := Go.Ground.phase }, { on := 7, ground := Go.Ground.phase }, { on := 8, ground := Go.Ground.phase }, { on := 9, ground := Go.Ground.phase }, { on := 10, ground := Go.Ground.phase }, { on := 11, ground := Go.Ground.phase }], guard := none }) (by kernel_rfl) (by rfl) rfl (fun K hK => ?_)
                go_simp
                refine hK.out _ _ ?_
                clear hK K
                try simp only [Act.put, List.setIfInBounds_toArray, List.set_cons_zero, List.set_cons_succ]
                refine wpAnyT_last (i := 13) (o := { dst := none, op := Go.Op.store 23 (Go.Operand.tmp 72) (Go.Operand.tmp 70), type := 0, pos := "low.go:343", after := #[{ on := 12, ground := Go.Ground.data }, { on := 9, ground := Go.Ground.data }, { on := 11, ground := Go.Ground.chain }, { on := 0, ground := Go.Ground.phase }, { on := 1, ground := Go.Ground.phase }, { on := 2, ground := Go.Ground.phase }, { on := 3, ground := Go.Ground.phase }, { on := 4, ground := Go.Ground.phase }, { on := 5, ground := Go.Ground.phase }, { on := 6, ground := Go.Ground.phase }, { on := 7, ground := Go.Ground.phase }, { on := 8, ground := Go.Ground.phase }, { on := 9, ground := Go.Ground.phase }, { on := 10, ground := Go.Ground.phase }, { on := 11, ground := Go.Ground.phase }], guard := none }) (by kernel_rfl) (by rfl) rfl (fun K hK => ?_)
                go_simp
                refine hK.out _ _ ?_
                clear hK K
                try simp only [Act.put, List.setIfInBounds_toArray, List.set_cons_zero, List.set_cons_succ]
                refine wpAnyT_done (by kernel_rfl) ?_ _
                have h9 := OEc.out
                simp only [List.length_map] at h9
                obtain ⟨Z1, Z2, Z3, Z4⟩ := wm_fin OB.out hkey VV.out.2 lk (wm_end HPS.out HE.out h9)
                clear h9
                have ZB := hidI Z4
                have Z := hidI (And.intro Z1 Z2)
                have Z0 := hidI Z3.1
                have O0 := hidI Z3.2
                clear Z1 Z2 Z3 Z4
                obtain ⟨z0, z1, z2, z3, z4, z5, z6, z7, z8, z9⟩ := Z0.out.c
                obtain ⟨o0, o1, o2, o3, o4, -⟩ := O0.out.c
                go_wp2_with fail
                obtain ⟨q0, q1, q2, q3, q4, -⟩ := ZB.out.c
                refine bodyPost_ret (v := .agg #[.int .i64 5, .int .i64 0, .string ⟨#[]⟩, .slice (some ⟨gK, 0, none⟩) (ps.length + 1) cK, .slice (some ⟨gV, 0, none⟩) (ps.length + 1) cV]) ?_ rfl ?_
                · simp only [set5] at q0 q1 q2 q3 q4
                  simp [results, Tryd.results44, go_sem, q0, q1, q2, q3, q4]
                · exact ⟨_, rfl, Z.out.1, Z.out.2⟩
              exact AllReadyT.nil
            exact AllReadyT.nil
          exact AllReadyT.nil
        exact AllReadyT.nil
theorem rwith_is (w : World) (ok : Nat → Prop) (t x : V) (v xv : Value) (key : List UInt8) (h : In w ok t v) (hx : In w ok x xv) (ho : Ob t) (hl : t.l.length ≤ 100000) (hk : key.length ≤ 9223372036854775807) :
    Calls Tryd.prog 44 #[v, str key, xv] w fun e w' => ∃ r, e = .returned r ∧ In w' (okN ok w.heap.size) (withV t key x) r ∧ Below w.heap.size w w' := by
  obtain ⟨d, h1, h2⟩ := h.two hx
  refine (rwith_at w ok d t x v xv key h1 h2 ho hl hk).mono ?_
  rintro e w' ⟨r, rfl, hr, hb⟩
  exact ⟨r, rfl, hr.is, hb⟩
end Go.Proofs.YtkboplcffailoaaDoor

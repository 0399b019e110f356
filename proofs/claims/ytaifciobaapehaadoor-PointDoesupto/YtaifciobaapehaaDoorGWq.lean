/- What alter of package stairwellref does: on the way down. -/
import Derived.Test.YtaifciobaapehaaDoorXn
import Derived.Test.YtaifciobaapehaaDoorGFg
import Derived.Test.YtaifciobaapehaaDoorXc
import Derived.Test.YtaifciobaapehaaDoorTp
import Derived.Test.YtaifciobaapehaaDoorCh
import Derived.Test.YtaifciobaapehaaDoorXj
/- What GetAt of package stairwellref does. -/
set_option linter.unusedSimpArgs false
set_option linter.unusedVariables false
namespace Go.Proofs.YtaifciobaapehaaDoor
open Go.RowKit

theorem split_code (p : List UInt8) : (splitP p).2 = 0 ∨ (splitP p).2 = 1 := by
  unfold splitP
  split
  · exact .inl rfl
  · split
    · exact .inr rfl
    · exact .inl rfl
def GetK (w : World) (ok : Nat → Prop) (t : V) (ns : List (List UInt8)) (na : Option Addr) (nc k : Nat) (wr : World) : Prop :=
  ∃ (y : V) (a5 a6 : Option Addr) (c5 c6 : Nat), Nice y ∧ getV ns t = getV (ns.drop k) y ∧ BoxIs wr w.heap.size (.int .i64 y.kind) (.int .i64 y.n) (.string ⟨y.s.toArray⟩) (.slice a5 y.keys.length c5) (.slice a6 y.l.length c6) ∧ BoxIs wr (w.heap.size + 1) (.int .i64 0) (.int .i64 0) (.string ⟨#[]⟩) (.slice none 0 0) (.slice none 0 0) ∧ Below w.heap.size w wr ∧
    In wr (fun k => ok k ∧ k < w.heap.size) y (.agg #[.int .i64 y.kind, .int .i64 y.n, .string ⟨y.s.toArray⟩, .slice a5 y.keys.length c5, .slice a6 y.l.length c6]) ∧ StrsAre wr (fun k => w.heap.size + 2 ≤ k) ns (.slice na ns.length nc)

set_option maxRecDepth 100000 in
set_option maxHeartbeats 40000000 in
theorem rget_is (w : World) (ok : Nat → Prop) (t : V) (v : Value) (p : List UInt8) (h : In w ok t v) (hp : p.length ≤ 140737488351232) (hN : cnt t ≤ 1000000000000000) :
    Calls Tryd.prog 8 #[v, str p] w fun e w' => ∃ r, e = .returned (.tuple #[r, .int .i64 (getR (splitP p) t).2]) ∧ Below w.heap.size w w' ∧ In w' ok (getR (splitP p) t).1 r := by
  have H := hidI h.low
  have HN := hidI hN
  obtain ⟨l1, l2, l3⟩ := h.lens
  obtain ⟨a1, a2, c1, c2, rfl⟩ := h.form
  clear h hN
  go_enter Tryd.func8, Tryd.ntmps8
  go_wp2_with fail
  refine (rsplit_is _ p hp).mono ?_
  rintro e w1 ⟨nv, rfl, hb1, hns⟩
  obtain ⟨ns, hn1⟩ : ∃ ns, (splitP p).1 = ns := ⟨_, rfl⟩
  obtain ⟨ee, hn2⟩ : ∃ ee, (splitP p).2 = ee := ⟨_, rfl⟩
  have SC := hidI (split_code p)
  rw [hn2] at SC ⊢
  rw [hn1] at hns
  have hsp : splitP p = (ns, ee) := by rw [← hn1, ← hn2]
  clear hn1 hn2
  obtain ⟨na, nc, rfl⟩ := hns.form
  have SP := hidI hsp
  have nlen := hns.1
  unfold maxLen at nlen
  have K1 : Hid (BoxIs w1 w.heap.size (.int .i64 t.kind) (.int .i64 t.n) (.string ⟨t.s.toArray⟩) (.slice a1 t.keys.length c1) (.slice a2 t.l.length c2) ∧ BoxIs w1 (w.heap.size + 1) (.int .i64 0) (.int .i64 0) (.string ⟨#[]⟩) (.slice none 0 0) (.slice none 0 0) ∧ Below w.heap.size w w1 ∧ StrsAre w1 (fun k => w.heap.size + 2 ≤ k) ns (.slice na ns.length nc)) := ⟨box_bel hb1 (h2a w _ _), box_bel hb1 (h2b w _ _), bel_trans (bel_trans (bel_alloc _ _) (bel_alloc _ _)) hb1, hns.imp fun a x hx hc => ⟨by simpa using hx, hc⟩⟩
  clear hb1 hns hsp
  by_cases he : ee = 0
  · subst he
    obtain ⟨p0, p1, p2, p3, p4, -⟩ := K1.out.1.c
    go_wp2_with fail
    refine (rgood_is _ (fun k => ok k ∧ k < w.heap.size) t _ (by exact H.out.bel K1.out.2.2.1) HN.out).mono ?_
    rintro e w2 ⟨rfl, hb2⟩
    have K2 : Hid (BoxIs w2 w.heap.size (.int .i64 t.kind) (.int .i64 t.n) (.string ⟨t.s.toArray⟩) (.slice a1 t.keys.length c1) (.slice a2 t.l.length c2) ∧ BoxIs w2 (w.heap.size + 1) (.int .i64 0) (.int .i64 0) (.string ⟨#[]⟩) (.slice none 0 0) (.slice none 0 0) ∧ Below w.heap.size w w2 ∧ StrsAre w2 (fun k => w.heap.size + 2 ≤ k) ns (.slice na ns.length nc)) := ⟨box_bel hb2 K1.out.1, box_bel hb2 K1.out.2.1, bel_trans K1.out.2.2.1 hb2, K1.out.2.2.2.bel hb2⟩
    clear hb2 p0 p1 p2 p3 p4 K1
    cases hg : goodV t with
    | false =>
      obtain ⟨x0, x1, x2, x3, x4, y0, y1, y2, y3, y4⟩ := (K2.out.2.1).c
      have Z := hidI (bel_set5 K2.out.2.2.1 (Nat.le_succ w.heap.size) (.int .i64 0) (.int .i64 0) (.string ⟨#[]⟩) (.slice none 0 0) (.slice none 0 0))
      have ZB := hidI ((K2.out.2.1).set (.int .i64 0) (.int .i64 0) (.string ⟨#[]⟩) (.slice none 0 0) (.slice none 0 0))
      have HA : Hid (getR (splitP p) t = (zeroT, 1)) := hidI (by rw [SP.out]; unfold getR; rw [if_neg (by simp), if_pos hg])
      clear hg
      go_wp2_with fail
      obtain ⟨z0, z1, z2, z3, z4, -⟩ := ZB.out.c
      refine bodyPost_ret (v := .tuple #[.agg #[.int .i64 0, .int .i64 0, .string ⟨#[]⟩, .slice none 0 0, .slice none 0 0], .int .i64 1]) ?_ rfl ?_
      · simp only [set5] at z0 z1 z2 z3 z4
        simp [results, Tryd.results8, go_sem, z0, z1, z2, z3, z4]
      · refine ⟨_, by rw [HA.out], Z.out, ?_⟩
        rw [HA.out]
        exact in_zero _ _
    | true =>
      have HG := hidI hg
      clear hg
      have S0 : Hid (GetK w ok t ns na nc 0 w2) := ⟨t, a1, a2, c1, c2, nice_of HG.out, rfl, K2.out.1, K2.out.2.1, K2.out.2.2.1, H.out.bel K2.out.2.2.1, K2.out.2.2.2⟩
      clear K2
      go_wp2_with fail
      go_loopg [26] ns.length (fun gk i wr => ∃ k : Nat, k ≤ ns.length ∧ gk = ns.length - k ∧ i = .int .i64 k ∧ GetK w ok t ns na nc k wr)
      case atStart => exact ⟨0, Nat.zero_le _, rfl, rfl, S0.out⟩
      case round =>
        obtain ⟨k, hk, hgk, rfl, y, a5, a6, c5, c6, iN, i1, i2, i3, i4, i5, i6⟩ := hrel
        have GK := hidI hgk
        have NY := hidI iN
        have I : Hid (getV ns t = getV (ns.drop k) y ∧ BoxIs wr w.heap.size (.int .i64 y.kind) (.int .i64 y.n) (.string ⟨y.s.toArray⟩) (.slice a5 y.keys.length c5) (.slice a6 y.l.length c6) ∧ BoxIs wr (w.heap.size + 1) (.int .i64 0) (.int .i64 0) (.string ⟨#[]⟩) (.slice none 0 0) (.slice none 0 0) ∧ Below w.heap.size w wr ∧ In wr (fun k => ok k ∧ k < w.heap.size) y (.agg #[.int .i64 y.kind, .int .i64 y.n, .string ⟨y.s.toArray⟩, .slice a5 y.keys.length c5, .slice a6 y.l.length c6]) ∧ StrsAre wr (fun k => w.heap.size + 2 ≤ k) ns (.slice na ns.length nc)) := ⟨i1, i2, i3, i4, i5, i6⟩
        obtain ⟨p0, p1, p2, p3, p4, p5, p6, p7, p8, p9⟩ := i2.c
        clear hgk iN i1 i2 i3 i4 i5 i6
        by_cases hlt : k < ns.length
        · obtain ⟨nb, no, rfl, hc1, hc2, hc⟩ := strs_cells I.out.2.2.2.2.2 hlt
          unfold maxLen at hc2
          have hsl : ns[k].length ≤ 9223372036854775807 := I.out.2.2.2.2.2.mem _ (List.getElem_mem _)
          go_wp2_with fail
          refine (rkid_is _ (fun k => ok k ∧ k < w.heap.size) y _ ns[k] (by exact I.out.2.2.2.2.1) (fun h5 => by have := nice_paired NY.out h5; simp only [pairedV, Bool.and_eq_true, decide_eq_true_eq] at this; omega)).mono ?_
          rintro e w3 ⟨rfl, hb3⟩
          have K3 : Hid (BoxIs w3 w.heap.size (.int .i64 y.kind) (.int .i64 y.n) (.string ⟨y.s.toArray⟩) (.slice a5 y.keys.length c5) (.slice a6 y.l.length c6) ∧ BoxIs w3 (w.heap.size + 1) (.int .i64 0) (.int .i64 0) (.string ⟨#[]⟩) (.slice none 0 0) (.slice none 0 0) ∧ Below w.heap.size w w3 ∧ In w3 (fun k => ok k ∧ k < w.heap.size) y (.agg #[.int .i64 y.kind, .int .i64 y.n, .string ⟨y.s.toArray⟩, .slice a5 y.keys.length c5, .slice a6 y.l.length c6]) ∧ StrsAre w3 (fun k => w.heap.size + 2 ≤ k) ns (.slice (some ⟨nb, no, none⟩) ns.length nc)) := ⟨box_bel hb3 I.out.2.1, box_bel hb3 I.out.2.2.1, bel_trans I.out.2.2.2.1 hb3, I.out.2.2.2.2.1.bel hb3, I.out.2.2.2.2.2.bel hb3⟩
          have GS : Hid (getV (ns.drop k) y = ((atV y ns[k]).bind fun i => y.l[i]?).bind (getV (ns.drop (k + 1)))) := hidI (by rw [List.drop_eq_getElem_cons hlt, getV, meant_at])
          clear hb3 hc p0 p1 p2 p3 p4 p5 p6 p7 p8 p9
          cases hm : atV y ns[k] with
          | none =>
            obtain ⟨x0, x1, x2, x3, x4, y0, y1, y2, y3, y4⟩ := (K3.out.2.1).c
            have Z := hidI (bel_set5 K3.out.2.2.1 (Nat.le_succ w.heap.size) (.int .i64 0) (.int .i64 0) (.string ⟨#[]⟩) (.slice none 0 0) (.slice none 0 0))
            have ZB := hidI ((K3.out.2.1).set (.int .i64 0) (.int .i64 0) (.string ⟨#[]⟩) (.slice none 0 0) (.slice none 0 0))
            have HA : Hid (getR (splitP p) t = (zeroT, 3)) := hidI (by rw [SP.out]; unfold getR; rw [if_neg (by simp), if_neg (by simp [HG.out]), I.out.1, GS.out, hm]; rfl)
            have eo : optI none = -1 := rfl
            rw [eo]
            clear hm eo
            go_wp2_with fail
            obtain ⟨z0, z1, z2, z3, z4, -⟩ := ZB.out.c
            refine bodyPost_ret (v := .tuple #[.agg #[.int .i64 0, .int .i64 0, .string ⟨#[]⟩, .slice none 0 0, .slice none 0 0], .int .i64 3]) ?_ rfl ?_
            · simp only [set5] at z0 z1 z2 z3 z4
              simp [results, Tryd.results8, go_sem, z0, z1, z2, z3, z4]
            · refine ⟨_, by rw [HA.out], Z.out, ?_⟩
              rw [HA.out]
              exact in_zero _ _
          | some i =>
            have hi : i < y.l.length := at_lt hm
            obtain ⟨u, hu⟩ : ∃ u, y.l[i] = u := ⟨_, rfl⟩
            obtain ⟨xb, xo, b5, d5, b6, d6, rfl, j3, j4, g0, g1, g2, g3, g4, g5⟩ := K3.out.2.2.2.1.item hi
            rw [hu] at g0 g1 g2 g3 g4 g5
            have NU : Hid (Nice u) := hidI (nice_mem NY.out (by rw [← hu]; exact List.getElem_mem hi))
            have GU : Hid (getV ns t = getV (ns.drop (k + 1)) u) := hidI (by rw [I.out.1, GS.out, hm]; simp [List.getElem?_eq_getElem hi, hu])
            obtain ⟨o0, o1, o2, o3, o4, o5, o6, o7, o8, o9⟩ := K3.out.1.c
            have FIN : Hid (GetK w ok t ns (some ⟨nb, no, none⟩) nc (k + 1) (set5 w3 w.heap.size (.int .i64 u.kind) (.int .i64 u.n) (.string ⟨u.s.toArray⟩) (.slice b5 u.keys.length d5) (.slice b6 u.l.length d6))) := hidI (by
              have g1 := set5_gb w3 w.heap.size (.int .i64 u.kind) (.int .i64 u.n) (.string ⟨u.s.toArray⟩) (.slice b5 u.keys.length d5) (.slice b6 u.l.length d6)
              exact ⟨u, b5, b6, d5, d6, NU.out, GU.out, K3.out.1.set _ _ _ _ _, K3.out.2.1.grown g1 (by simp), bel_set5 K3.out.2.2.1 (Nat.le_refl _) _ _ _ _ _, g5.grown g1 (fun k hk => by omega), K3.out.2.2.2.2.imp (cells_grown g1 (fun k hk e => by cases e; omega))⟩)
            have eo : optI (some i) = (i : Int) := rfl
            rw [eo]
            have v1 : ¬ (i : Int) < 0 := by omega
            have v2 : (0 : Int) ≤ (i : Int) := by omega
            have v3 : (i : Int) < (y.l.length : Int) := by omega
            clear hm eo hu g5
            go_wp2_with fail
            go_roundg (ns.length - (k + 1))
            case measure => rw [GK.out]; omega
            case rel => exact ⟨k + 1, hlt, rfl, by go_num, FIN.out⟩
        · have hke : k = ns.length := by omega
          subst hke
          obtain ⟨x0, x1, x2, x3, x4, y0, y1, y2, y3, y4⟩ := I.out.2.2.1.c
          have Z := hidI (bel_set5 I.out.2.2.2.1 (Nat.le_succ w.heap.size) (.int .i64 y.kind) (.int .i64 y.n) (.string ⟨y.s.toArray⟩) (.slice a5 y.keys.length c5) (.slice a6 y.l.length c6))
          have ZI := hidI ((I.out.2.2.2.2.1.grown (set5_gb wr (w.heap.size + 1) (.int .i64 y.kind) (.int .i64 y.n) (.string ⟨y.s.toArray⟩) (.slice a5 y.keys.length c5) (.slice a6 y.l.length c6)) (fun k hk => by omega)).weak fun k hk => hk.1)
          have ZB := hidI (I.out.2.2.1.set (.int .i64 y.kind) (.int .i64 y.n) (.string ⟨y.s.toArray⟩) (.slice a5 y.keys.length c5) (.slice a6 y.l.length c6))
          have HA : Hid (getR (splitP p) t = (y, 0)) := hidI (by rw [SP.out]; refine get_ok rfl HG.out ?_; rw [I.out.1, List.drop_length]; rfl)
          go_wp2_with fail
          obtain ⟨z0, z1, z2, z3, z4, -⟩ := ZB.out.c
          refine bodyPost_ret (v := .tuple #[.agg #[.int .i64 y.kind, .int .i64 y.n, .string ⟨y.s.toArray⟩, .slice a5 y.keys.length c5, .slice a6 y.l.length c6], .int .i64 0]) ?_ rfl ?_
          · simp only [set5] at z0 z1 z2 z3 z4
            simp [results, Tryd.results8, go_sem, z0, z1, z2, z3, z4]
          · refine ⟨_, by rw [HA.out], Z.out, ?_⟩
            rw [HA.out]
            exact ZI.out
  · have e1 : (ee != 0) = true := by rw [bne_iff_ne]; exact he
    have e2 : (ee == 0) = false := by rw [beq_eq_false_iff_ne]; exact he
    have HE := hidI he
    have h1 : ee = 1 := by rcases SC.out with h | h; exact absurd h he; exact h
    clear he
    subst h1
    obtain ⟨x0, x1, x2, x3, x4, y0, y1, y2, y3, y4⟩ := (K1.out.2.1).c
    have Z := hidI (bel_set5 K1.out.2.2.1 (Nat.le_succ w.heap.size) (.int .i64 0) (.int .i64 0) (.string ⟨#[]⟩) (.slice none 0 0) (.slice none 0 0))
    have ZB := hidI ((K1.out.2.1).set (.int .i64 0) (.int .i64 0) (.string ⟨#[]⟩) (.slice none 0 0) (.slice none 0 0))
    have HA : Hid (getR (splitP p) t = (zeroT, 1)) := hidI (by rw [SP.out]; unfold getR; rw [if_pos HE.out])
    clear K1
    go_wp2_with fail
    obtain ⟨z0, z1, z2, z3, z4, -⟩ := ZB.out.c
    refine bodyPost_ret (v := .tuple #[.agg #[.int .i64 0, .int .i64 0, .string ⟨#[]⟩, .slice none 0 0, .slice none 0 0], .int .i64 1]) ?_ rfl ?_
    · simp only [set5] at z0 z1 z2 z3 z4
      simp [results, Tryd.results8, go_sem, z0, z1, z2, z3, z4]
    · refine ⟨_, by rw [HA.out], Z.out, ?_⟩
      rw [HA.out]
      exact in_zero _ _

end Go.Proofs.YtaifciobaapehaaDoor

/- Rows of one's own: an item set. -/
set_option linter.unusedSimpArgs false
set_option linter.unusedVariables false
namespace Go.Proofs.YtaifciobaapehaaDoor
open Go.RowKit

theorem strs_sl {w : World} {ok : Nat → Prop} {xs : List (List UInt8)} {v : Value} (h : StrsAre w ok xs v) (hl : xs.length ≤ 1000000) : SlIs w 1 v xs.length (xs.map str) := by
  have h' := h
  rcases h.2 with ⟨rfl, a, rfl⟩ | ⟨b, off, c, rfl, h1, h2, h3⟩
  · exact slnil w 1 a
  · have := (ss_parts h' xs.length xs.length (Nat.le_refl _) (Nat.le_refl _) hl).1
    rwa [List.take_length] at this
theorem vals_sl {w : World} {ok : Nat → Prop} {d : Nat} {xs : List V} {v : Value} (h : ValsAre w ok (VIs w ok d) xs v) (hl : xs.length ≤ 1000000) : ∃ cs, RowV (VIs w ok d) xs cs ∧ SlIs w 5 v xs.length cs := by
  have h' := h
  rcases h.2 with ⟨rfl, a, rfl⟩ | ⟨b, off, c, rfl, h1, h2, h3⟩
  · exact ⟨[], rfl, slnil w 5 a⟩
  · obtain ⟨c1, c2, r1, s1, -, -⟩ := sl_parts h' xs.length xs.length (Nat.le_refl _) (Nat.le_refl _) hl
    rw [List.take_length] at r1
    exact ⟨c1, r1, s1⟩
theorem own_form {w : World} {B : Nat} {e : TypeId} {size : Nat} {v : Value} {n : Nat} {xs : List Value} (h : w.ownsRow B e size v n xs) : ∃ a c, v = .slice a n c ∧ (n = 0 ∨ ∃ g, a = some ⟨g, 0, none⟩) ∧ n ≤ c ∧ c ≤ 9223372036854775807 ∧ ∀ g, a = some ⟨g, 0, none⟩ → B ≤ g ∧ g < w.heap.size := by
  have hlt := h.lt
  rcases h.2 with ⟨rfl, h0⟩ | ⟨g, cap, cur, rfl, h1, h2, h3, h4, -⟩
  · exact ⟨none, 0, by rw [h0], .inl h0, by omega, by omega, fun g e => by cases e⟩
  · exact ⟨_, cap, rfl, .inr ⟨g, rfl⟩, h3, h4, fun g' e => by cases e; exact hlt g rfl⟩
theorem own_block {w : World} {B : Nat} {e : TypeId} {size : Nat} {a : Option Addr} {n c : Nat} {xs : List Value} (h : w.ownsRow B e size (.slice a n c) n xs) : a = none ∨ ∃ g, a = some ⟨g, 0, none⟩ := by
  rcases h.2 with ⟨e, -⟩ | ⟨g, cap, cur, e, -⟩
  · simp only [Value.slice.injEq] at e; exact .inl e.1
  · simp only [Value.slice.injEq] at e; exact .inr ⟨g, e.1⟩
/- All of a row, each of its own depth: of one depth. -/
theorem row_depth {w : World} {ok : Nat → Prop} : ∀ {xs : List V} {cs : List Value}, RowV (In w ok) xs cs → ∃ D, RowV (VIs w ok D) xs cs
  | [], cs, h => ⟨0, h⟩
  | x :: xs, cs, h => by
    obtain ⟨v0, v1, v2, v3, v4, rest, e, ⟨d, hd⟩, hr⟩ := h
    obtain ⟨D, hD⟩ := row_depth hr
    exact ⟨d + D, v0, v1, v2, v3, v4, rest, e, VIs.le (by omega) hd, hD.imp fun _ _ h => VIs.le (by omega) h⟩

theorem shaped_keys {x : V} (h : shapedB x = true) (hl : x.l.length ≤ 120) : x.keys.length ≤ 120 := by
  unfold shapedB listlessB at h
  repeat' split at h
  all_goals first | (simp only [Bool.and_eq_true, decide_eq_true_eq] at h; omega) | cases h
/- Five cells of a block, set. -/
def set5a (w : World) (g i : Nat) (d0 d1 d2 d3 d4 : Value) : World :=
  ((((w.setCell ⟨g, i, none⟩ d0).setCell ⟨g, i + 1, none⟩ d1).setCell ⟨g, i + 2, none⟩ d2).setCell ⟨g, i + 3, none⟩ d3).setCell ⟨g, i + 4, none⟩ d4
theorem set5a_gb (w : World) (g i : Nat) (d0 d1 d2 d3 d4 : Value) : w.grownBy (set5a w g i d0 d1 d2 d3 d4) (some g) :=
  gb_set (gb_set (gb_set (gb_set (gb_set (gb_refl _ _) _ _) _ _) _ _) _ _) _ _
/- An item of a row of one's own, set. -/
theorem own_set {w : World} {B : Nat} {e : TypeId} {g n cap : Nat} {xs zs : List Value} {d0 d1 d2 d3 d4 v0 v1 v2 v3 v4 : Value} (h : w.ownsRow B e 5 (.slice (some ⟨g, 0, none⟩) n cap) n (xs ++ v0 :: v1 :: v2 :: v3 :: v4 :: zs)) :
    (set5a w g xs.length d0 d1 d2 d3 d4).ownsRow B e 5 (.slice (some ⟨g, 0, none⟩) n cap) n (xs ++ d0 :: d1 :: d2 :: d3 :: d4 :: zs) := by
  obtain ⟨hl, h⟩ := h
  refine ⟨by simpa using hl, ?_⟩
  rcases h with ⟨e, _⟩ | ⟨g', cap', cur, e1, h1, h2, h3, h4, h5, h6⟩
  · cases e
  · simp only [Value.slice.injEq, Option.some.injEq, Addr.mk.injEq, true_and, and_true] at e1
    obtain ⟨rfl, rfl⟩ := e1
    have e9 := heap_set (heap_set (heap_set (heap_set (heap_set h2 xs.length d0) (xs.length + 1) d1) (xs.length + 2) d2) (xs.length + 3) d3) (xs.length + 4) d4
    refine .inr ⟨g, cap, _, rfl, h1, e9, h3, h4, by simp [h5], ?_⟩
    obtain ⟨tl, hcur⟩ : ∃ tl, cur.toList = (xs ++ v0 :: v1 :: v2 :: v3 :: v4 :: zs) ++ tl := ⟨cur.toList.drop (n * 5), by rw [← h6, List.take_append_drop]⟩
    have key : ∀ (r : List Value), (((((xs ++ v0 :: v1 :: v2 :: v3 :: v4 :: r).set xs.length d0).set (xs.length + 1) d1).set (xs.length + 2) d2).set (xs.length + 3) d3).set (xs.length + 4) d4 = xs ++ d0 :: d1 :: d2 :: d3 :: d4 :: r := by
      intro r
      simp [List.set_append]
    have hcur2 : cur.toList = xs ++ v0 :: v1 :: v2 :: v3 :: v4 :: (zs ++ tl) := by rw [hcur]; simp
    simp only [Array.toList_setIfInBounds]
    rw [hcur2, key]
    have hn : n * 5 = (xs ++ d0 :: d1 :: d2 :: d3 :: d4 :: zs).length := by rw [← hl]; simp
    have e10 : xs ++ d0 :: d1 :: d2 :: d3 :: d4 :: (zs ++ tl) = (xs ++ d0 :: d1 :: d2 :: d3 :: d4 :: zs) ++ tl := by simp
    rw [e10, List.take_append_of_le_length (by omega), List.take_of_length_le (by omega)]

theorem drop5 {cs : List Value} {i : Nat} {v0 v1 v2 v3 v4 : Value} (g0 : cs[i * 5]? = some v0) (g1 : cs[i * 5 + 1]? = some v1) (g2 : cs[i * 5 + 2]? = some v2) (g3 : cs[i * 5 + 3]? = some v3) (g4 : cs[i * 5 + 4]? = some v4) : cs.drop (i * 5) = v0 :: v1 :: v2 :: v3 :: v4 :: cs.drop ((i + 1) * 5) := by
  obtain ⟨h0, e0⟩ := List.getElem?_eq_some_iff.1 g0
  obtain ⟨h1, e1⟩ := List.getElem?_eq_some_iff.1 g1
  obtain ⟨h2, e2⟩ := List.getElem?_eq_some_iff.1 g2
  obtain ⟨h3, e3⟩ := List.getElem?_eq_some_iff.1 g3
  obtain ⟨h4, e4⟩ := List.getElem?_eq_some_iff.1 g4
  rw [List.drop_eq_getElem_cons h0, List.drop_eq_getElem_cons h1, List.drop_eq_getElem_cons h2, List.drop_eq_getElem_cons h3, List.drop_eq_getElem_cons h4, e0, e1, e2, e3, e4, show i * 5 + 4 + 1 = (i + 1) * 5 by omega]
def Own5 (w : World) (g i : Nat) : Prop := (∃ u, w.cell? ⟨g, i, none⟩ = some u) ∧ (∃ u, w.cell? ⟨g, i + 1, none⟩ = some u) ∧ (∃ u, w.cell? ⟨g, i + 2, none⟩ = some u) ∧ (∃ u, w.cell? ⟨g, i + 3, none⟩ = some u) ∧ (∃ u, w.cell? ⟨g, i + 4, none⟩ = some u) ∧
  w.frozen? ⟨g, i, none⟩ = false ∧ w.frozen? ⟨g, i + 1, none⟩ = false ∧ w.frozen? ⟨g, i + 2, none⟩ = false ∧ w.frozen? ⟨g, i + 3, none⟩ = false ∧ w.frozen? ⟨g, i + 4, none⟩ = false
theorem own_cells5 {w : World} {B : Nat} {e : TypeId} {g n cap i : Nat} {xs zs : List Value} {v0 v1 v2 v3 v4 : Value} (h : w.ownsRow B e 5 (.slice (some ⟨g, 0, none⟩) n cap) n (xs ++ v0 :: v1 :: v2 :: v3 :: v4 :: zs)) (hi : xs.length = i) :
    w.cell? ⟨g, i, none⟩ = some v0 ∧ w.cell? ⟨g, i + 1, none⟩ = some v1 ∧ w.cell? ⟨g, i + 2, none⟩ = some v2 ∧ w.cell? ⟨g, i + 3, none⟩ = some v3 ∧ w.cell? ⟨g, i + 4, none⟩ = some v4 := by
  subst hi
  have c : ∀ j u, (xs ++ v0 :: v1 :: v2 :: v3 :: v4 :: zs)[j]? = some u → w.cell? ⟨g, j, none⟩ = some u := fun j u hj => by
    have := h.cells (g := g) rfl j u hj
    rw [addr_add, Nat.zero_add] at this; exact this
  exact ⟨c _ _ (by simp), c _ _ (by simp), c _ _ (by simp), c _ _ (by simp), c _ _ (by simp)⟩
theorem own5_of {w : World} {B : Nat} {e : TypeId} {g n cap i : Nat} {xs zs : List Value} {v0 v1 v2 v3 v4 : Value} (h : w.ownsRow B e 5 (.slice (some ⟨g, 0, none⟩) n cap) n (xs ++ v0 :: v1 :: v2 :: v3 :: v4 :: zs)) (hi : xs.length = i) : Own5 w g i := by
  obtain ⟨c0, c1, c2, c3, c4⟩ := own_cells5 h hi
  have fz : ∀ j, w.frozen? ⟨g, j, none⟩ = false := by
    intro j
    rcases h.2 with ⟨e, _⟩ | ⟨g', cap', cur, e1, -, h2, -⟩
    · cases e
    · simp only [Value.slice.injEq, Option.some.injEq, Addr.mk.injEq, and_true] at e1
      obtain ⟨rfl, -, -⟩ := e1
      simp [World.frozen?, h2]
  exact ⟨⟨_, c0⟩, ⟨_, c1⟩, ⟨_, c2⟩, ⟨_, c3⟩, ⟨_, c4⟩, fz _, fz _, fz _, fz _, fz _⟩
theorem bel_set5a {w w1 : World} {g : Nat} (h : Below w.heap.size w w1) (hg : w.heap.size ≤ g) (i : Nat) (d0 d1 d2 d3 d4 : Value) : Below w.heap.size w (set5a w1 g i d0 d1 d2 d3 d4) :=
  gb_none (gb_setA (gb_setA (gb_setA (gb_setA (gb_setA (gb_below h) hg _ _) hg _ _) hg _ _) hg _ _) hg _ _)
end Go.Proofs.YtaifciobaapehaaDoor

/- What swapped of package stairwellref does. -/
set_option linter.unusedSimpArgs false
set_option linter.unusedVariables false
namespace Go.Proofs.YtaifciobaapehaaDoor
open Go.RowKit

/- A slice of values appended to a row of one's own. -/
theorem run_joinV {W : World} {B n m : Nat} {v0 v : Value} {cs ds : List Value} (ho : W.ownsRow B 25 5 v0 n cs) (hs : SlIs W 5 v m ds) (hn : n ≤ 1000000) (hB : B ≤ W.heap.size) (ty : TypeId) :
    ∃ v' W', (Builtin.append_ #[23, 23] ty #[v0, v]).run Tryd.prog W = .ok v' W' ∧ W'.ownsRow B 25 5 v' (n + m) (cs ++ ds) ∧ W.grownBy W' v0.ownBlock := by
  obtain ⟨i0, hi, hz0, hz1, hz2⟩ := info_parts info25
  obtain ⟨h1, h2, h3, h4⟩ := hs
  rcases h4 with ⟨rfl, rfl⟩ | ⟨ad, c, rfl, hc⟩
  · have hd : ds = [] := List.eq_nil_of_length_eq_zero (by simpa using h1)
    subst hd
    exact ⟨_, _, run_append_owned_none (P := Tryd.prog) W B 23 ty 25 i0 5 Tryd.underlying23 hi v0 n cs ho, by simpa using ho, gb_refl _ _⟩
  · obtain ⟨v', W', hr, ho, hg, -, -⟩ := run_append_own_at (P := Tryd.prog) W B 23 ty 25 i0 _ 5 80 Tryd.underlying23 hi hz0 hz1 hz2 rfl (by decide) v0 n cs ho ad m c ds h1 hc h3 (by unfold maxLen; omega) (by omega) hB
    exact ⟨v', W', hr, ho, hg⟩
set_option maxRecDepth 100000 in
set_option maxHeartbeats 8000000 in
theorem rswapped_is (w : World) (ok : Nat → Prop) (t x : V) (v xv : Value) (i : Nat) (h : In w ok t v) (hx : In w ok x xv) (hi : i < t.l.length) (hsz : t.l.length ≤ 100000) :
    Calls Tryd.prog 53 #[v, .int .i64 i, xv] w fun e w' => ∃ r, e = .returned r ∧ Below w.heap.size w w' ∧ In w' (okN ok w.heap.size) { t with l := t.l.take i ++ x :: t.l.drop (i + 1) } r := by
  obtain ⟨l1, l2, l3⟩ := h.lens
  obtain ⟨a7, a8, c7, c8, rfl⟩ := hx.form
  obtain ⟨d, h, hx⟩ := h.low.two hx.low
  have HX := hidI hx
  obtain ⟨ks, ls, rfl, h1, h2, h3, h4, h5⟩ := h
  have KK : Hid (I64 t.kind ∧ I64 t.n ∧ t.s.length ≤ maxLen ∧ StrsAre w _ t.keys ks ∧ ValsAre w _ (VIs w _ d) t.l ls) := ⟨h1, h2, h3, h4, h5⟩
  obtain ⟨a1, c1, rfl⟩ := h4.form
  obtain ⟨a2, c2, rfl⟩ := h5.form
  obtain ⟨cs, hrow, hsl⟩ := vals_sl h5 (by omega)
  have R : Hid (RowV (VIs w _ d) t.l cs ∧ SlIs w 5 (.slice a2 t.l.length c2) t.l.length cs) := ⟨hrow, hsl⟩
  clear h1 h2 h3 h4 h5 hrow hsl hx
  unfold str
  obtain ⟨W0, hW0⟩ : ∃ W0, ((w.alloc (.cells #[.int .i64 t.kind, .int .i64 t.n, .string ⟨t.s.toArray⟩, .slice a1 t.keys.length c1, .slice a2 t.l.length c2] 25)).alloc (.cells #[.int .i64 x.kind, .int .i64 x.n, .string ⟨x.s.toArray⟩, .slice a7 x.keys.length c7, .slice a8 x.l.length c8] 25)).alloc (.cells #[.int .i64 0, .int .i64 0, .string ⟨#[]⟩, .slice none 0 0, .slice none 0 0] 25) = W0 := ⟨_, rfl⟩
  have hb0 : Below w.heap.size w W0 := by rw [← hW0]; exact bel_trans (bel_trans (bel_alloc _ _) (bel_alloc _ _)) (bel_alloc _ _)
  have hs0 : W0.heap.size = w.heap.size + 3 := by rw [← hW0]; simp
  have b0 : BoxIs W0 w.heap.size (.int .i64 t.kind) (.int .i64 t.n) (.string ⟨t.s.toArray⟩) (.slice a1 t.keys.length c1) (.slice a2 t.l.length c2) := by rw [← hW0]; exact h3a w _ _ _
  have b1 : BoxIs W0 (w.heap.size + 1) (.int .i64 x.kind) (.int .i64 x.n) (.string ⟨x.s.toArray⟩) (.slice a7 x.keys.length c7) (.slice a8 x.l.length c8) := by rw [← hW0]; exact h3b w _ _ _
  have b2 : BoxIs W0 (w.heap.size + 2) (.int .i64 0) (.int .i64 0) (.string ⟨#[]⟩) (.slice none 0 0) (.slice none 0 0) := by rw [← hW0]; exact h3c w _ _ _
  obtain ⟨v', W1, hR, ho, hg⟩ := run_joinV (World.ownsRow_nil W0 W0.heap.size 25 5) (R.out.2.bel hb0) (by omega) (Nat.le_refl _) 23
  rw [Nat.zero_add, List.nil_append] at ho
  have hb1 : Below W0.heap.size W0 W1 := gb_none (by simpa [Value.ownBlock] using hg)
  obtain ⟨la, lc, rfl, hla, hlc1, hlc2, hlg⟩ := own_form ho
  obtain ⟨g, rfl⟩ : ∃ g, la = some ⟨g, 0, none⟩ := by rcases hla with h0 | h0; omega; exact h0
  obtain ⟨hg1, hg2⟩ := hlg g rfl
  have hcut : t.l = t.l.take i ++ t.l[i] :: t.l.drop (i + 1) := by rw [← List.drop_eq_getElem_cons hi, List.take_append_drop]
  have r0 := R.out.1
  rw [hcut] at r0
  obtain ⟨cs1, c9, hcs, r1, u0, u1, u2, u3, u4, cs2, rfl, -, r2⟩ := RowV.split r0
  have hlen : cs1.length = i * 5 := by rw [r1.length, List.length_take]; omega
  have ho2 := ho
  rw [hcs] at ho2
  have HR : Hid ((Builtin.append_ #[23, 23] 23 #[.slice none 0 0, .slice a2 t.l.length c2]).run Tryd.prog (((w.alloc (.cells #[.int .i64 t.kind, .int .i64 t.n, .string ⟨t.s.toArray⟩, .slice a1 t.keys.length c1, .slice a2 t.l.length c2] 25)).alloc (.cells #[.int .i64 x.kind, .int .i64 x.n, .string ⟨x.s.toArray⟩, .slice a7 x.keys.length c7, .slice a8 x.l.length c8] 25)).alloc (.cells #[.int .i64 0, .int .i64 0, .string ⟨#[]⟩, .slice none 0 0, .slice none 0 0] 25)) = .ok (.slice (some ⟨g, 0, none⟩) t.l.length lc) W1) := hidI (by rw [hW0]; exact hR)
  have B1 : Hid (BoxIs W1 w.heap.size (.int .i64 t.kind) (.int .i64 t.n) (.string ⟨t.s.toArray⟩) (.slice a1 t.keys.length c1) (.slice a2 t.l.length c2) ∧ BoxIs W1 (w.heap.size + 1) (.int .i64 x.kind) (.int .i64 x.n) (.string ⟨x.s.toArray⟩) (.slice a7 x.keys.length c7) (.slice a8 x.l.length c8) ∧ BoxIs W1 (w.heap.size + 2) (.int .i64 0) (.int .i64 0) (.string ⟨#[]⟩) (.slice none 0 0) (.slice none 0 0) ∧ Below w.heap.size w W1) := hidI ⟨box_bel hb1 b0, box_bel hb1 b1, box_bel hb1 b2, bel_trans hb0 hb1⟩
  obtain ⟨⟨t0, n0⟩, ⟨t1, n1⟩, ⟨t2, n2⟩, ⟨t3, n3⟩, ⟨t4, n4⟩, f0, f1, f2, f3, f4⟩ := own5_of ho2 hlen
  have FIN : Hid (∀ W9, W9 = set5 ((set5a W1 g (i * 5) (.int .i64 x.kind) (.int .i64 x.n) (.string ⟨x.s.toArray⟩) (.slice a7 x.keys.length c7) (.slice a8 x.l.length c8)).setCell ⟨w.heap.size, 4, none⟩ (.slice (some ⟨g, 0, none⟩) t.l.length lc)) (w.heap.size + 2) (.int .i64 t.kind) (.int .i64 t.n) (.string ⟨t.s.toArray⟩) (.slice a1 t.keys.length c1) (.slice (some ⟨g, 0, none⟩) t.l.length lc) → In W9 (okN ok w.heap.size) { t with l := t.l.take i ++ x :: t.l.drop (i + 1) } (.agg #[.int .i64 t.kind, .int .i64 t.n, .string ⟨t.s.toArray⟩, .slice a1 t.keys.length c1, .slice (some ⟨g, 0, none⟩) t.l.length lc]) ∧ Below w.heap.size w W9 ∧ BoxIs W9 (w.heap.size + 2) (.int .i64 t.kind) (.int .i64 t.n) (.string ⟨t.s.toArray⟩) (.slice a1 t.keys.length c1) (.slice (some ⟨g, 0, none⟩) t.l.length lc)) := hidI (by
    rintro W9 rfl
    have gs := set5a_gb W1 g (i * 5) (.int .i64 x.kind) (.int .i64 x.n) (.string ⟨x.s.toArray⟩) (.slice a7 x.keys.length c7) (.slice a8 x.l.length c8)
    have ho3 := own_set (d0 := .int .i64 x.kind) (d1 := .int .i64 x.n) (d2 := .string ⟨x.s.toArray⟩) (d3 := .slice a7 x.keys.length c7) (d4 := .slice a8 x.l.length c8) ho2
    rw [hlen] at ho3
    have hbW2 : Below w.heap.size w (set5a W1 g (i * 5) (.int .i64 x.kind) (.int .i64 x.n) (.string ⟨x.s.toArray⟩) (.slice a7 x.keys.length c7) (.slice a8 x.l.length c8)) := bel_set5a B1.out.2.2.2 (by omega) _ _ _ _ _ _
    have c2' := B1.out.2.2.1.grown gs (by simp; omega)
    obtain ⟨W2, hW2⟩ : ∃ W2, set5a W1 g (i * 5) (.int .i64 x.kind) (.int .i64 x.n) (.string ⟨x.s.toArray⟩) (.slice a7 x.keys.length c7) (.slice a8 x.l.length c8) = W2 := ⟨_, rfl⟩
    rw [hW2] at ho3 hbW2 c2' ⊢
    have g1 : W2.grownBy (W2.setCell ⟨w.heap.size, 4, none⟩ (.slice (some ⟨g, 0, none⟩) t.l.length lc)) (some w.heap.size) := gb_set (gb_refl _ _) _ _
    have g2 := set5_gb (W2.setCell ⟨w.heap.size, 4, none⟩ (.slice (some ⟨g, 0, none⟩) t.l.length lc)) (w.heap.size + 2) (.int .i64 t.kind) (.int .i64 t.n) (.string ⟨t.s.toArray⟩) (.slice a1 t.keys.length c1) (.slice (some ⟨g, 0, none⟩) t.l.length lc)
    have hbx := (c2'.grown g1 (by simp)).set (.int .i64 t.kind) (.int .i64 t.n) (.string ⟨t.s.toArray⟩) (.slice a1 t.keys.length c1) (.slice (some ⟨g, 0, none⟩) t.l.length lc)
    have hb9 : Below w.heap.size w (set5 (W2.setCell ⟨w.heap.size, 4, none⟩ (.slice (some ⟨g, 0, none⟩) t.l.length lc)) (w.heap.size + 2) (.int .i64 t.kind) (.int .i64 t.n) (.string ⟨t.s.toArray⟩) (.slice a1 t.keys.length c1) (.slice (some ⟨g, 0, none⟩) t.l.length lc)) := gb_none (gb_set5 (gb_setA (gb_below hbW2) (Nat.le_refl _) _ _) (by omega) _ _ _ _ _)
    refine ⟨⟨d + 1, _, _, rfl, KK.out.1, KK.out.2.1, KK.out.2.2.1, ?_, ?_⟩, hb9, hbx⟩
    · exact (KK.out.2.2.2.1.bel hb9).imp fun a x hx hc => ⟨.inl hx.1, hc⟩
    · have ho9 := own_kept' (own_kept' ho3 g1 (by omega)) g2 (by omega)
      have hlen2 : t.l.length = (t.l.take i ++ x :: t.l.drop (i + 1)).length := by simp; omega
      refine own_vals hlen2 ho9 ?_ (fun k hk => .inr (by omega)) (by rw [← hlen2]; unfold maxLen; omega)
      have rx : RowV (VIs _ (okN (fun k => ok k ∧ k < w.heap.size) w.heap.size) d) [x] [.int .i64 x.kind, .int .i64 x.n, .string ⟨x.s.toArray⟩, .slice a7 x.keys.length c7, .slice a8 x.l.length c8] := ⟨_, _, _, _, _, [], rfl, (HX.out.bel hb9).toN, rfl⟩
      have := ((r2.bel (B := w.heap.size) hb9).append rx).append (r1.bel (B := w.heap.size) hb9)
      exact this.imp fun _ _ h => h.weak fun k hk => by rcases hk with hk | hk; exact .inl hk.1; exact .inr hk)
  have ne0 : ¬ w.heap.size = g := by omega
  have ne1 : ¬ w.heap.size + 1 = g := by omega
  have ne2 : ¬ w.heap.size + 2 = g := by omega
  have ne3 : ¬ g = w.heap.size := by omega
  have ne4 : ¬ g = w.heap.size + 1 := by omega
  have ne5 : ¬ g = w.heap.size + 2 := by omega
  obtain ⟨p0, p1, p2, p3, p4, p5, p6, p7, p8, p9⟩ := B1.out.1.c
  obtain ⟨q0, q1, q2, q3, q4, -⟩ := B1.out.2.1.c
  obtain ⟨x0, x1, x2, x3, x4, y0, y1, y2, y3, y4⟩ := B1.out.2.2.1.c
  have j0 : (0 : Int) ≤ (i : Int) := by omega
  have j1 : (i : Int) < (t.l.length : Int) := by omega
  clear hR ho ho2 hg hb0 hb1 b0 b1 b2 hW0 hs0 r0 hcut hcs r1 r2 hlen hla hlg R
  go_enter Tryd.func53, Tryd.ntmps53
  go_wp2_with (at_builtin; go_must (refine Lib.wpList_append_run _ rfl _ _ _ _ rfl (.slice none 0 0) (.slice a2 t.l.length c2) rfl rfl _ _ HR.out ?_); refine Hid.out ?_)
  refine hidI ?_
  go_wp2_with fail
  obtain ⟨r1, r2, r3⟩ := FIN.out _ rfl
  obtain ⟨z0, z1, z2, z3, z4, -⟩ := r3.c
  refine bodyPost_ret (v := .agg #[.int .i64 t.kind, .int .i64 t.n, .string ⟨t.s.toArray⟩, .slice a1 t.keys.length c1, .slice (some ⟨g, 0, none⟩) t.l.length lc]) ?_ rfl ?_
  · simp only [set5, set5a] at z0 z1 z2 z3 z4
    simp [results, Tryd.results53, go_sem, z0, z1, z2, z3, z4]
  · exact ⟨_, rfl, r2, r1⟩
end Go.Proofs.YtaifciobaapehaaDoor

set_option linter.unusedSimpArgs false
set_option linter.unusedVariables false
namespace Go.Proofs.YtaifciobaapehaaDoor
open Go.RowKit

/- What is done at the end of the path. -/
def altV (kind : Int) (x t : V) (s : List UInt8) : Option V := if kind = 1 then addedV x t s else if kind = 3 then replacedV x t s else removedV t s
/- What is said of alter. -/
def AltC (kind : Int) (ns : List (List UInt8)) : Prop := ∀ (w : World) (ok oks : Nat → Prop) (t x : V) (v xv nv : Value), In w ok t v → In w ok x xv → Nice t → StrsAre w oks ns nv →
    Calls Tryd.prog 31 #[.int .i64 kind, v, nv, xv] w fun e w' => ∃ r, e = .returned (.tuple #[r, .int .i64 (if (downV (altV kind x) ns t).isSome then 0 else 3)]) ∧ Below w.heap.size w w' ∧ In w' (okN ok w.heap.size) ((downV (altV kind x) ns t).getD t) r
/- Behind the call of alter itself. -/
def MidA (w : World) (ok : Nat → Prop) (t u : V) (m : Option V) (cd : Int) (a1 a2 : Option Addr) (c1 c2 C : Nat) (p q : Value) (wc : World) : Prop :=
  ∃ (y2 : V) (e5 e6 : Option Addr) (d5 d6 g : Nat), p = .pointer (some ⟨g, 0, none⟩) ∧ q = .int .i64 cd ∧ y2 = m.getD u ∧ BoxIs wc g (.int .i64 y2.kind) (.int .i64 y2.n) (.string ⟨y2.s.toArray⟩) (.slice e5 y2.keys.length d5) (.slice e6 y2.l.length d6) ∧ BoxIs wc w.heap.size (.int .i64 t.kind) (.int .i64 t.n) (.string ⟨t.s.toArray⟩) (.slice a1 t.keys.length c1) (.slice a2 t.l.length c2) ∧ BoxIs wc (w.heap.size + 2) (.int .i64 0) (.int .i64 0) (.string ⟨#[]⟩) (.slice none 0 0) (.slice none 0 0) ∧ Below w.heap.size w wc ∧ In wc (lowN ok w.heap.size C) y2 (.agg #[.int .i64 y2.kind, .int .i64 y2.n, .string ⟨y2.s.toArray⟩, .slice e5 y2.keys.length d5, .slice e6 y2.l.length d6])
theorem lowN_less {ok : Nat → Prop} {B C D : Nat} (h : C ≤ D) : ∀ k, lowN ok B D k → lowN ok B C k := by
  intro k hk
  rcases hk with hk | hk
  · exact .inl hk
  · exact .inr (by omega)

set_option maxRecDepth 100000 in
set_option maxHeartbeats 40000000 in
theorem alter_more (kind : Int) (s r : List UInt8) (rs : List (List UInt8)) (ih : AltC kind (r :: rs)) : AltC kind (s :: r :: rs) := by
  intro w ok oks t x v xv nv h hx hn hnv
  have hnl := hnv.1
  obtain ⟨nb, no, nc, rfl, n1, n2, n3, n4⟩ := strs_head hnv
  simp only [List.length_cons] at n1 hnl ⊢
  obtain ⟨m, rfl⟩ : ∃ m, nc = m + 2 := ⟨nc - 2, by omega⟩
  obtain ⟨L, hL⟩ : ∃ L, rs.length + 1 + 1 = L := ⟨_, rfl⟩
  have NT : Hid (StrsAre w oks (r :: rs) (.slice (some ⟨nb, no + 1, none⟩) (L - 1) (m + 1))) := hidI (by
    have := strs_tail hnv
    rw [List.length_cons, show rs.length + 1 = L - 1 by omega, show m + 2 - 1 = m + 1 by omega] at this
    exact this)
  rw [hL] at n1 hnl ⊢
  obtain ⟨cd, hcd⟩ : ∃ cd : Int, (if (downV (altV kind x) (s :: r :: rs) t).isSome then 0 else 3) = cd := ⟨_, rfl⟩
  rw [hcd]
  have HCD := hidI hcd
  clear hcd
  have H := hidI h.low
  have HX := hidI hx.low
  have HN := hidI hn
  have IH := hidI ih
  have hnl' : (L : Int) ≤ 9223372036854775807 := by unfold maxLen at hnl; omega
  have e1 : (1 : Int) < (L : Int) := by omega
  have e2 : (L : Int) ≤ (m : Int) + 2 := by omega
  have e3 : (1 : Int) ≤ (L : Int) := by omega
  have e4 : (0 : Int) < (L : Int) := by omega
  have HLL := hidI hL
  clear hL
  obtain ⟨l1, l2, l3⟩ := h.lens
  obtain ⟨a1, a2, c1, c2, rfl⟩ := h.form
  obtain ⟨a7, a8, c7, c8, rfl⟩ := hx.form
  have hsz := nice_len hn
  have g0 : ∀ o1 o2 o3, (((w.alloc o1).alloc o2).alloc o3).cell? ⟨nb, no, none⟩ = some (.string ⟨s.toArray⟩) := fun o1 o2 o3 => cell_bel (bel_trans (bel_trans (bel_alloc _ _) (bel_alloc _ _)) (bel_alloc _ o3)) n4
  have con1 : Hid (∀ W, W.heap = (((w.alloc (.cells #[.int .i64 t.kind, .int .i64 t.n, .string ⟨t.s.toArray⟩, .slice a1 t.keys.length c1, .slice a2 t.l.length c2] 25)).alloc (.cells #[.int .i64 x.kind, .int .i64 x.n, .string ⟨x.s.toArray⟩, .slice a7 x.keys.length c7, .slice a8 x.l.length c8] 25)).alloc (.cells #[.int .i64 0, .int .i64 0, .string ⟨#[]⟩, .slice none 0 0, .slice none 0 0] 25)).heap → W.os = w.os → W.tape = w.tape → W.output = w.output → Calls Tryd.prog 28 #[.agg #[.int .i64 t.kind, .int .i64 t.n, .string ⟨t.s.toArray⟩, .slice a1 t.keys.length c1, .slice a2 t.l.length c2], .string ⟨s.toArray⟩] W fun e w' => e = .returned (.int .i64 (optI (atV t s))) ∧ BoxIs w' w.heap.size (.int .i64 t.kind) (.int .i64 t.n) (.string ⟨t.s.toArray⟩) (.slice a1 t.keys.length c1) (.slice a2 t.l.length c2) ∧ BoxIs w' (w.heap.size + 1) (.int .i64 x.kind) (.int .i64 x.n) (.string ⟨x.s.toArray⟩) (.slice a7 x.keys.length c7) (.slice a8 x.l.length c8) ∧ BoxIs w' (w.heap.size + 2) (.int .i64 0) (.int .i64 0) (.string ⟨#[]⟩) (.slice none 0 0) (.slice none 0 0) ∧ Below w.heap.size w w') := by
    intro W e1 e2 e3 e4
    have hbW := bel_of3 e1 e2 e3 e4
    refine (rkid_is W (fun k => ok k ∧ k < w.heap.size) t _ s (H.out.bel hbW) (fun h5 => by have := nice_paired HN.out h5; simp only [pairedV, Bool.and_eq_true, decide_eq_true_eq] at this; omega)).mono ?_
    rintro e w1 ⟨rfl, hb1⟩
    exact ⟨rfl, box_bel hb1 (by unfold BoxIs; rw [e1]; exact h3a w _ _ _), box_bel hb1 (by unfold BoxIs; rw [e1]; exact h3b w _ _ _), box_bel hb1 (by unfold BoxIs; rw [e1]; exact h3c w _ _ _), bel_trans hbW hb1⟩
  clear h hx hn ih n4 hnv
  go_enter Tryd.func31, Tryd.ntmps31
  go_upto_region 1 with fail
  go_cut [10] (fun p wc => p = .int .i64 (optI (atV t s)) ∧ BoxIs wc w.heap.size (.int .i64 t.kind) (.int .i64 t.n) (.string ⟨t.s.toArray⟩) (.slice a1 t.keys.length c1) (.slice a2 t.l.length c2) ∧ BoxIs wc (w.heap.size + 1) (.int .i64 x.kind) (.int .i64 x.n) (.string ⟨x.s.toArray⟩) (.slice a7 x.keys.length c7) (.slice a8 x.l.length c8) ∧ BoxIs wc (w.heap.size + 2) (.int .i64 0) (.int .i64 0) (.string ⟨#[]⟩) (.slice none 0 0) (.slice none 0 0) ∧ Below w.heap.size w wc)
  case first =>
    go_region_with ((go_at_call 28; refine (con1.out _ (by rfl) (by rfl) (by rfl) (by rfl)).mono ?_; rintro e w1 ⟨rfl, hfin⟩; have FIN := hidI hfin; clear hfin))
    all_goals
      go_wp2_with fail
      go_meet
      case rel => exact ⟨rfl, FIN.out⟩
  case rest =>
    obtain ⟨wa, hwa⟩ : ∃ wa, wa = wc := ⟨_, rfl⟩
    subst hwa
    obtain ⟨rfl, k1, k2, k3, k4⟩ := hcut
    have K : Hid (BoxIs wa w.heap.size (.int .i64 t.kind) (.int .i64 t.n) (.string ⟨t.s.toArray⟩) (.slice a1 t.keys.length c1) (.slice a2 t.l.length c2) ∧ BoxIs wa (w.heap.size + 1) (.int .i64 x.kind) (.int .i64 x.n) (.string ⟨x.s.toArray⟩) (.slice a7 x.keys.length c7) (.slice a8 x.l.length c8) ∧ BoxIs wa (w.heap.size + 2) (.int .i64 0) (.int .i64 0) (.string ⟨#[]⟩) (.slice none 0 0) (.slice none 0 0) ∧ Below w.heap.size w wa) := hidI ⟨k1, k2, k3, k4⟩
    clear con1 g0
    have hk3 := k3.lt
    obtain ⟨p0, p1, p2, p3, p4, -⟩ := k1.c
    obtain ⟨q0, q1, q2, q3, q4, -⟩ := k2.c
    obtain ⟨x0, x1, x2, x3, x4, y0, y1, y2, y3, y4⟩ := k3.c
    cases hm : atV t s with
    | none =>
      have Z : Hid (_ ∧ _) := hidI (set_out (C := wa.heap.size) (g := w.heap.size + 2) ((H.out.bel k4).weak (lowN_low (C := wa.heap.size))) k4 (by omega) k3.lt)
      have ZB : Hid _ := hidI (k3.set (.int .i64 t.kind) (.int .i64 t.n) (.string ⟨t.s.toArray⟩) (.slice a1 t.keys.length c1) (.slice a2 t.l.length c2))
      have HA : Hid (downV (altV kind x) (s :: r :: rs) t = none) := hidI (by rw [downV, meant_at, hm]; rfl)
      have eo : optI none = -1 := rfl
      rw [eo]
      clear k1 k2 k3 k4 hm eo
      go_wp2_with fail
      obtain ⟨z0, z1, z2, z3, z4, -⟩ := ZB.out.c
      refine bodyPost_ret (v := .tuple #[.agg #[.int .i64 t.kind, .int .i64 t.n, .string ⟨t.s.toArray⟩, .slice a1 t.keys.length c1, .slice a2 t.l.length c2], .int .i64 3]) ?_ rfl ?_
      · simp only [set5] at z0 z1 z2 z3 z4
        simp [results, Tryd.results31, go_sem, z0, z1, z2, z3, z4]
      · refine ⟨_, by rw [← HCD.out, HA.out]; rfl, Z.out.1, ?_⟩
        rw [HA.out]
        exact Z.out.2
    | some i =>
      have hi : i < t.l.length := at_lt hm
      obtain ⟨u, hu⟩ : ∃ u, t.l[i] = u := ⟨_, rfl⟩
      obtain ⟨xb, xo, b5, f5, b6, f6, rfl, j3, j4, g0, g1, g2, g3, g4, g5⟩ := (H.out.bel k4).item hi
      rw [hu] at g0 g1 g2 g3 g4 g5
      have NU : Hid (Nice u) := hidI (nice_mem HN.out (by rw [← hu]; exact List.getElem_mem hi))
      have DV : Hid (downV (altV kind x) (s :: r :: rs) t = (downV (altV kind x) (r :: rs) u).bind fun y' => some { t with l := t.l.take i ++ y' :: t.l.drop (i + 1) }) := hidI (by
        rw [downV, meant_at, hm, Option.bind_some, List.getElem?_eq_getElem hi, hu, Option.bind_some]
        congr 1
        funext y'
        rw [replaced_at, hm]; rfl)
      obtain ⟨cd2, hcd2⟩ : ∃ cd2 : Int, (if (downV (altV kind x) (r :: rs) u).isSome then 0 else 3) = cd2 := ⟨_, rfl⟩
      have CD2 := hidI hcd2
      clear hcd2
      have G5 := hidI g5
      have eo : optI (some i) = (i : Int) := rfl
      rw [eo]
      have v1 : ¬ (i : Int) < 0 := by omega
      have v2 : (0 : Int) ≤ (i : Int) := by omega
      have v3 : (i : Int) < (t.l.length : Int) := by omega
      have ac0 : ∀ o, (wa.alloc o).cell? ⟨xb, xo + i * 5, none⟩ = some (.int .i64 u.kind) := fun o => cell_bel (bel_alloc _ o) g0
      have con5 : Hid (∀ W, W.heap = wa.heap → W.os = wa.os → W.tape = wa.tape → W.output = wa.output → Calls Tryd.prog 31 #[.int .i64 kind, .agg #[.int .i64 u.kind, .int .i64 u.n, .string ⟨u.s.toArray⟩, .slice b5 u.keys.length f5, .slice b6 u.l.length f6], .slice (some ⟨nb, no + 1, none⟩) (L - 1) (m + 1), .agg #[.int .i64 x.kind, .int .i64 x.n, .string ⟨x.s.toArray⟩, .slice a7 x.keys.length c7, .slice a8 x.l.length c8]] W fun e w' => ∃ (y2 : V) (e5 e6 : Option Addr) (d5 d6 : Nat), e = .returned (.tuple #[.agg #[.int .i64 y2.kind, .int .i64 y2.n, .string ⟨y2.s.toArray⟩, .slice e5 y2.keys.length d5, .slice e6 y2.l.length d6], .int .i64 cd2]) ∧ ∀ wc, wc = w'.alloc (.cells #[.int .i64 y2.kind, .int .i64 y2.n, .string ⟨y2.s.toArray⟩, .slice e5 y2.keys.length d5, .slice e6 y2.l.length d6] 25) → MidA w ok t u (downV (altV kind x) (r :: rs) u) cd2 a1 (some ⟨xb, xo, none⟩) c1 c2 wa.heap.size (.pointer (some ⟨w'.heap.size, 0, none⟩)) (.int .i64 cd2) wc) := by
        intro W e1 e2 e3 e4
        have hbW := bel_of0 e1 e2 e3 e4
        have hsz : W.heap.size = wa.heap.size := by rw [e1]
        have hbb := bel_trans K.out.2.2.2 hbW
        refine (IH.out W (fun k => ok k ∧ k < w.heap.size) oks u x _ _ _ (G5.out.bel hbW) (HX.out.bel hbb) NU.out (NT.out.bel hbb)).mono ?_
        rintro e w1 ⟨r9, rfl, hb1, hy⟩
        obtain ⟨y2, hy2⟩ : ∃ y2, (downV (altV kind x) (r :: rs) u).getD u = y2 := ⟨_, rfl⟩
        rw [hy2] at hy
        obtain ⟨e5, e6, d5, d6, rfl⟩ := hy.form
        rw [hsz] at hy
        refine ⟨y2, e5, e6, d5, d6, by rw [CD2.out], ?_⟩
        rintro wc rfl
        have hb3 := bel_trans (bel_trans hbW hb1) (bel_alloc w1 (.cells #[.int .i64 y2.kind, .int .i64 y2.n, .string ⟨y2.s.toArray⟩, .slice e5 y2.keys.length d5, .slice e6 y2.l.length d6] 25))
        exact ⟨y2, e5, e6, d5, d6, w1.heap.size, rfl, rfl, hy2.symm, heap_alloc_new w1 _, box_bel hb3 K.out.1, box_bel hb3 K.out.2.2.1, bel_trans K.out.2.2.2 hb3, hy.bel (bel_alloc _ _)⟩
      have con5b : Hid (∀ W, W.heap = (wa.alloc (.cells #[.int .i64 0, .int .i64 0, .string ⟨#[]⟩, .slice none 0 0, .slice none 0 0] 25)).heap → W.os = wa.os → W.tape = wa.tape → W.output = wa.output → Calls Tryd.prog 31 #[.int .i64 kind, .agg #[.int .i64 u.kind, .int .i64 u.n, .string ⟨u.s.toArray⟩, .slice b5 u.keys.length f5, .slice b6 u.l.length f6], .slice (some ⟨nb, no + 1, none⟩) (L - 1) (m + 1), .agg #[.int .i64 x.kind, .int .i64 x.n, .string ⟨x.s.toArray⟩, .slice a7 x.keys.length c7, .slice a8 x.l.length c8]] W fun e w' => ∃ (y2 : V) (e5 e6 : Option Addr) (d5 d6 : Nat), e = .returned (.tuple #[.agg #[.int .i64 y2.kind, .int .i64 y2.n, .string ⟨y2.s.toArray⟩, .slice e5 y2.keys.length d5, .slice e6 y2.l.length d6], .int .i64 cd2]) ∧ BoxIs w' wa.heap.size (.int .i64 0) (.int .i64 0) (.string ⟨#[]⟩) (.slice none 0 0) (.slice none 0 0) ∧ ∀ wc, wc = set5 w' wa.heap.size (.int .i64 y2.kind) (.int .i64 y2.n) (.string ⟨y2.s.toArray⟩) (.slice e5 y2.keys.length d5) (.slice e6 y2.l.length d6) → MidA w ok t u (downV (altV kind x) (r :: rs) u) cd2 a1 (some ⟨xb, xo, none⟩) c1 c2 wa.heap.size (.pointer (some ⟨wa.heap.size, 0, none⟩)) (.int .i64 cd2) wc) := by
        intro W e1 e2 e3 e4
        have hbW : Below wa.heap.size wa W := by
          have := bel_alloc wa (.cells #[.int .i64 0, .int .i64 0, .string ⟨#[]⟩, .slice none 0 0, .slice none 0 0] 25)
          exact ⟨e2, e3, e4, by rw [e1]; exact this.size, fun k hk => by rw [e1]; exact this.block k hk⟩
        have hsz : W.heap.size = wa.heap.size + 1 := by rw [e1]; simp
        have hbb := bel_trans K.out.2.2.2 hbW
        refine (IH.out W (fun k => ok k ∧ k < w.heap.size) oks u x _ _ _ (G5.out.bel hbW) (HX.out.bel hbb) NU.out (NT.out.bel hbb)).mono ?_
        rintro e w1 ⟨r9, rfl, hb1, hy⟩
        obtain ⟨y2, hy2⟩ : ∃ y2, (downV (altV kind x) (r :: rs) u).getD u = y2 := ⟨_, rfl⟩
        rw [hy2] at hy
        obtain ⟨e5, e6, d5, d6, rfl⟩ := hy.form
        rw [hsz] at hy
        have hb3 := bel_trans hbW hb1
        have hbx : BoxIs w1 wa.heap.size (.int .i64 0) (.int .i64 0) (.string ⟨#[]⟩) (.slice none 0 0) (.slice none 0 0) := box_bel hb1 (by unfold BoxIs; rw [e1]; exact heap_alloc_new wa _)
        refine ⟨y2, e5, e6, d5, d6, by rw [CD2.out], hbx, ?_⟩
        rintro wc rfl
        have g1 := set5_gb w1 wa.heap.size (.int .i64 y2.kind) (.int .i64 y2.n) (.string ⟨y2.s.toArray⟩) (.slice e5 y2.keys.length d5) (.slice e6 y2.l.length d6)
        exact ⟨y2, e5, e6, d5, d6, wa.heap.size, rfl, rfl, hy2.symm, hbx.set _ _ _ _ _, (box_bel hb3 K.out.1).grown g1 (by simp; omega), (box_bel hb3 K.out.2.2.1).grown g1 (by simp; omega), bel_set5 (bel_trans K.out.2.2.2 hb3) (by omega) _ _ _ _ _, (In.box (B := w.heap.size) (C := wa.heap.size + 1) hy (by omega) (by omega) _ _ _ _ _).weak (lowN_less (by omega))⟩
      have ac1 : ∀ o, (wa.alloc o).cell? ⟨xb, xo + i * 5 + 1, none⟩ = some (.int .i64 u.n) := fun o => cell_bel (bel_alloc _ o) g1
      have ac2 : ∀ o, (wa.alloc o).cell? ⟨xb, xo + i * 5 + 2, none⟩ = some (.string ⟨u.s.toArray⟩) := fun o => cell_bel (bel_alloc _ o) g2
      have ac3 : ∀ o, (wa.alloc o).cell? ⟨xb, xo + i * 5 + 3, none⟩ = some (.slice b5 u.keys.length f5) := fun o => cell_bel (bel_alloc _ o) g3
      have ac4 : ∀ o, (wa.alloc o).cell? ⟨xb, xo + i * 5 + 4, none⟩ = some (.slice b6 u.l.length f6) := fun o => cell_bel (bel_alloc _ o) g4
      have ap4 : ∀ o, (wa.alloc o).cell? ⟨w.heap.size, 4, none⟩ = some (.slice (some ⟨xb, xo, none⟩) t.l.length c2) := fun o => cell_bel (bel_alloc _ o) p4
      have aq0 : ∀ o, (wa.alloc o).cell? ⟨w.heap.size + 1, 0, none⟩ = some (.int .i64 x.kind) := fun o => cell_bel (bel_alloc _ o) q0
      have aq1 : ∀ o, (wa.alloc o).cell? ⟨w.heap.size + 1, 1, none⟩ = some (.int .i64 x.n) := fun o => cell_bel (bel_alloc _ o) q1
      have aq2 : ∀ o, (wa.alloc o).cell? ⟨w.heap.size + 1, 2, none⟩ = some (.string ⟨x.s.toArray⟩) := fun o => cell_bel (bel_alloc _ o) q2
      have aq3 : ∀ o, (wa.alloc o).cell? ⟨w.heap.size + 1, 3, none⟩ = some (.slice a7 x.keys.length c7) := fun o => cell_bel (bel_alloc _ o) q3
      have aq4 : ∀ o, (wa.alloc o).cell? ⟨w.heap.size + 1, 4, none⟩ = some (.slice a8 x.l.length c8) := fun o => cell_bel (bel_alloc _ o) q4
      clear k1 k2 k3 k4 hm eo hu g5
      go_upto_region 5 with fail
      go_cut [11, 12] (fun p q wc => MidA w ok t u (downV (altV kind x) (r :: rs) u) cd2 a1 (some ⟨xb, xo, none⟩) c1 c2 wa.heap.size p q wc)
      case first =>
        go_region_with (first
          | (go_at_call 31; refine (con5.out _ (by rfl) (by rfl) (by rfl) (by rfl)).mono ?_; rintro e w1 ⟨y2, e5, e6, d5, d6, rfl, hfin⟩; have FIN := hidI hfin; clear hfin)
          | (go_at_call 31; refine (con5b.out _ (by rfl) (by rfl) (by rfl) (by rfl)).mono ?_; rintro e w1 ⟨y2, e5, e6, d5, d6, rfl, hbx, hfin⟩; obtain ⟨h0, h1, h2, h3, h4, h5, h6, h7, h8, h9⟩ := hbx.c; have FIN := hidI hfin; clear hfin hbx))
        all_goals
          go_wp2_with fail
          go_meet
          case rel => exact FIN.out _ rfl
      case rest =>
        obtain ⟨y2, e5, e6, d5, d6, g, rfl, rfl, hy2, k1, k3, k4, k5, k6⟩ := hcut
        have hk4 := k4.lt
        clear con5 con5b ac0 ac1 ac2 ac3 ac4 ap4 aq0 aq1 aq2 aq3 aq4 p0 p1 p2 p3 p4 q0 q1 q2 q3 q4 x0 x1 x2 x3 x4 y0 y1 y3 y4 g0 g1 g2 g3 g4
        obtain ⟨p0, p1, p2, p3, p4, -⟩ := k3.c
        cases hd : downV (altV kind x) (r :: rs) u with
        | none =>
          have hc2 : cd2 = 3 := by rw [← CD2.out, hd]; rfl
          subst hc2
          obtain ⟨x0, x1, x2, x3, x4, y0, y1, y2', y3, y4⟩ := k4.c
          have Z : Hid (_ ∧ _) := hidI (set_out (C := wc.heap.size) (g := w.heap.size + 2) ((H.out.bel k5).weak (lowN_low (C := wc.heap.size))) k5 (by omega) k4.lt)
          have ZB : Hid _ := hidI (k4.set (.int .i64 t.kind) (.int .i64 t.n) (.string ⟨t.s.toArray⟩) (.slice a1 t.keys.length c1) (.slice (some ⟨xb, xo, none⟩) t.l.length c2))
          have HA : Hid (downV (altV kind x) (s :: r :: rs) t = none) := hidI (by rw [DV.out, hd]; rfl)
          clear k1 k3 k4 k5 k6 hd hy2 CD2 DV
          go_wp2_with fail
          obtain ⟨z0, z1, z2, z3, z4, -⟩ := ZB.out.c
          refine bodyPost_ret (v := .tuple #[.agg #[.int .i64 t.kind, .int .i64 t.n, .string ⟨t.s.toArray⟩, .slice a1 t.keys.length c1, .slice (some ⟨xb, xo, none⟩) t.l.length c2], .int .i64 3]) ?_ rfl ?_
          · simp only [set5] at z0 z1 z2 z3 z4
            simp [results, Tryd.results31, go_sem, z0, z1, z2, z3, z4]
          · refine ⟨_, by rw [← HCD.out, HA.out]; rfl, Z.out.1, ?_⟩
            rw [HA.out]
            exact Z.out.2
        | some y9 =>
          have hc2 : cd2 = 0 := by rw [← CD2.out, hd]; rfl
          subst hc2
          rw [hd, Option.getD_some] at hy2
          subst hy2
          have HA : Hid (downV (altV kind x) (s :: r :: rs) t = some { t with l := t.l.take i ++ y2 :: t.l.drop (i + 1) }) := hidI (by rw [DV.out, hd]; rfl)
          obtain ⟨f0, f1, f2, f3, f4, -⟩ := k1.c
          have K2 := hidI (And.intro k4 (And.intro k5 k6))
          clear k1 k3 k4 k5 k6 hd CD2 DV
          go_wp2_with fail
          refine (rswapped_is _ (lowN ok w.heap.size wa.heap.size) t y2 _ _ i ((H.out.bel K2.out.2.1).weak lowN_low) K2.out.2.2 hi (by omega)).mono ?_
          rintro e w1 ⟨r9, rfl, hb1, hy⟩
          obtain ⟨z, hz⟩ : ∃ z : V, { t with l := t.l.take i ++ y2 :: t.l.drop (i + 1) } = z := ⟨_, rfl⟩
          rw [hz] at hy HA
          obtain ⟨b7, b8, d7, d8, rfl⟩ := hy.form
          have hbx := box_bel hb1 K2.out.1
          have R : Hid (Below w.heap.size w (set5 w1 (w.heap.size + 2) (.int .i64 z.kind) (.int .i64 z.n) (.string ⟨z.s.toArray⟩) (.slice b7 z.keys.length d7) (.slice b8 z.l.length d8)) ∧ In (set5 w1 (w.heap.size + 2) (.int .i64 z.kind) (.int .i64 z.n) (.string ⟨z.s.toArray⟩) (.slice b7 z.keys.length d7) (.slice b8 z.l.length d8)) (okN ok w.heap.size) z (.agg #[.int .i64 z.kind, .int .i64 z.n, .string ⟨z.s.toArray⟩, .slice b7 z.keys.length d7, .slice b8 z.l.length d8]) ∧ BoxIs (set5 w1 (w.heap.size + 2) (.int .i64 z.kind) (.int .i64 z.n) (.string ⟨z.s.toArray⟩) (.slice b7 z.keys.length d7) (.slice b8 z.l.length d8)) (w.heap.size + 2) (.int .i64 z.kind) (.int .i64 z.n) (.string ⟨z.s.toArray⟩) (.slice b7 z.keys.length d7) (.slice b8 z.l.length d8)) := hidI (by
            have g1 := set5_gb w1 (w.heap.size + 2) (.int .i64 z.kind) (.int .i64 z.n) (.string ⟨z.s.toArray⟩) (.slice b7 z.keys.length d7) (.slice b8 z.l.length d8)
            refine ⟨bel_set5 (bel_trans K2.out.2.1 hb1) (by omega) _ _ _ _ _, (hy.grown g1 ?_).weak ?_, hbx.set _ _ _ _ _⟩
            · intro k hk e
              rcases hk with hk | hk
              · exact lowN_ne (by omega) (by omega) k hk e
              · omega
            · intro k hk
              rcases hk with hk | hk
              · exact lowN_out (by omega) k hk
              · exact .inr (by omega))
          obtain ⟨x0, x1, x2, x3, x4, y0, y1, y2', y3, y4⟩ := hbx.c
          clear hb1 hy hz hbx
          go_wp2_with fail
          obtain ⟨r1, r2, r3⟩ := R.out
          obtain ⟨z0, z1, z2, z3, z4, -⟩ := r3.c
          refine bodyPost_ret (v := .tuple #[.agg #[.int .i64 z.kind, .int .i64 z.n, .string ⟨z.s.toArray⟩, .slice b7 z.keys.length d7, .slice b8 z.l.length d8], .int .i64 0]) ?_ rfl ?_
          · simp only [set5] at z0 z1 z2 z3 z4
            simp [results, Tryd.results31, go_sem, z0, z1, z2, z3, z4]
          · refine ⟨_, by rw [← HCD.out, HA.out]; rfl, r1, ?_⟩
            rw [HA.out]
            exact r2
end Go.Proofs.YtaifciobaapehaaDoor

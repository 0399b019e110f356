/- What swapped of package stairwellref does. -/
import Derived.Test.YtaifciobaapehaaDoorKx
import Derived.Test.YtaifciobaapehaaDoorYa
import Derived.Test.YtaifciobaapehaaDoorXc
import Derived.Test.YtaifciobaapehaaDoorWd
import Derived.Test.YtaifciobaapehaaDoorXp
import Derived.Test.YtaifciobaapehaaDoorTp
import Derived.Test.YtaifciobaapehaaDoorXa
import Derived.Test.YtaifciobaapehaaDoorWa
import Derived.Test.YtaifciobaapehaaDoorXz
import Derived.Deep.AppendLies
import Derived.Maps.AppendAt
import Derived.Laws.AppendOwnNone
import Derived.Deep.DrawnRows
import Derived.Deep.RegionLaw
import Derived.Laws.IdiomStrings
import Derived.Shelf.SlSortCmp.QuietGrown
import Derived.Deep.CutBlock
import Derived.Test.YtaifciobaapehaaDoorCh
/- What is read of an argument that is a list of operations. -/
set_option linter.unusedSimpArgs false
set_option linter.unusedVariables false
namespace Go.Proofs.YtaifciobaapehaaDoor
open Go.ChangeShapes Go.WideShapes Go.ChangeAt Go.RowKit
set_option maxRecDepth 100000

theorem cellsOp : Tryd.prog.cellsOf 43 = 8 := by kernel_rfl
theorem readableO : Tryd.prog.readableRec 35 = true := by kernel_rfl
theorem rowedO : 35 < Tryd.prog.types.size := of_decide_eq_true (by kernel_rfl)
theorem weights_all {H : Type} {e : TypeId} : ∀ {ds : List (DataW H)} {j : Nat} {d : DataW H}, ds[j]? = some d → ∀ n ∈ d.weights Tryd.prog e, n ∈ DataW.weightsAll Tryd.prog e ds
  | d0 :: ds, 0, d, hd, n, hn => by
    simp only [List.getElem?_cons_zero, Option.some.injEq] at hd
    subst hd
    simp only [DataW.weightsAll, List.mem_append]
    exact .inl hn
  | d0 :: ds, j + 1, d, hd, n, hn => by
    simp only [List.getElem?_cons_succ] at hd
    simp only [DataW.weightsAll, List.mem_append]
    exact .inr (weights_all hd n hn)
  | [], _, _, hd, _, _ => by simp at hd
end Go.Proofs.YtaifciobaapehaaDoor

/- What Get of package point does. -/
set_option linter.unusedSimpArgs false
set_option linter.unusedVariables false
namespace Go.Proofs.YtaifciobaapehaaDoor
open Go.RowKit

/- On the way: what is got so far. -/
def GetI (w : World) (ok : Nat → Prop) (t : V) (ns : List (List UInt8)) (na : Option Addr) (nc k : Nat) (wr : World) : Prop :=
  ∃ (y : V) (a5 a6 : Option Addr) (c5 c6 : Nat), getV ns t = getV (ns.drop k) y ∧ BoxIs wr w.heap.size (.int .i64 y.kind) (.int .i64 y.n) (.string ⟨y.s.toArray⟩) (.slice a5 y.keys.length c5) (.slice a6 y.l.length c6) ∧ BoxIs wr (w.heap.size + 1) (.int .i64 0) (.int .i64 0) (.string ⟨#[]⟩) (.slice none 0 0) (.slice none 0 0) ∧ Below w.heap.size w wr ∧
    In wr (fun k => ok k ∧ k < w.heap.size) y (.agg #[.int .i64 y.kind, .int .i64 y.n, .string ⟨y.s.toArray⟩, .slice a5 y.keys.length c5, .slice a6 y.l.length c6]) ∧ StrsAre wr (fun k => w.heap.size + 2 ≤ k) ns (.slice na ns.length nc)

set_option maxRecDepth 100000 in
set_option maxHeartbeats 40000000 in
theorem get_is (w : World) (ok : Nat → Prop) (t : V) (v : Value) (p : List UInt8) (h : In w ok t v) (hp : p.length ≤ 140737488351232) (hM : GlobM w) :
    Calls Tryd.prog 7 #[v, str p] w fun e w' => ∃ r, e = .returned (.tuple #[r, .int .i64 (getR (splitP p) t).2]) ∧ Below w.heap.size w w' ∧ In w' ok (getR (splitP p) t).1 r := by
  have H := hidI h.low
  have HMM := hidI hM
  obtain ⟨l1, l2, l3⟩ := h.lens
  obtain ⟨a1, a2, c1, c2, rfl⟩ := h.form
  clear h hM
  go_enter Tryd.func7, Tryd.ntmps7
  go_wp2_with fail
  refine (split_all _ p hp (by exact HMM.out.bel (bel_trans (bel_alloc _ _) (bel_alloc _ _)))).mono ?_
  rintro e w1 ⟨ns, ee, na, nc, rfl, hsp, hns, hb1⟩
  have SP := hidI hsp
  have nlen := hns.1
  unfold maxLen at nlen
  have K1 : Hid (BoxIs w1 w.heap.size (.int .i64 t.kind) (.int .i64 t.n) (.string ⟨t.s.toArray⟩) (.slice a1 t.keys.length c1) (.slice a2 t.l.length c2) ∧ BoxIs w1 (w.heap.size + 1) (.int .i64 0) (.int .i64 0) (.string ⟨#[]⟩) (.slice none 0 0) (.slice none 0 0) ∧ Below w.heap.size w w1 ∧ StrsAre w1 (fun k => w.heap.size + 2 ≤ k) ns (.slice na ns.length nc)) := ⟨box_bel hb1 (h2a w _ _), box_bel hb1 (h2b w _ _), bel_trans (bel_trans (bel_alloc _ _) (bel_alloc _ _)) hb1, hns.imp fun a x hx hc => ⟨by simpa using hx, hc⟩⟩
  clear hb1 hns hsp
  by_cases he : ee = 0
  · subst he
    obtain ⟨p0, p1, p2, p3, p4, -⟩ := K1.out.1.c
    go_wp2_with fail
    refine (good_is _ (fun k => ok k ∧ k < w.heap.size) t _ (by exact H.out.bel K1.out.2.2.1)).mono ?_
    rintro e w2 ⟨rfl, hb2⟩
    have K2 : Hid (BoxIs w2 w.heap.size (.int .i64 t.kind) (.int .i64 t.n) (.string ⟨t.s.toArray⟩) (.slice a1 t.keys.length c1) (.slice a2 t.l.length c2) ∧ BoxIs w2 (w.heap.size + 1) (.int .i64 0) (.int .i64 0) (.string ⟨#[]⟩) (.slice none 0 0) (.slice none 0 0) ∧ Below w.heap.size w w2 ∧ StrsAre w2 (fun k => w.heap.size + 2 ≤ k) ns (.slice na ns.length nc)) := ⟨box_bel hb2 K1.out.1, box_bel hb2 K1.out.2.1, bel_trans K1.out.2.2.1 hb2, K1.out.2.2.2.bel hb2⟩
    clear hb2 p0 p1 p2 p3 p4 K1
    cases hg : goodV t with
    | false =>
      obtain ⟨x0, x1, x2, x3, x4, y0, y1, y2, y3, y4⟩ := (K2.out.2.1).c
      have Z := hidI (bel_set5 K2.out.2.2.1 (Nat.le_succ w.heap.size) (.int .i64 0) (.int .i64 0) (.string ⟨#[]⟩) (.slice none 0 0) (.slice none 0 0))
      have ZB := hidI ((K2.out.2.1).set (.int .i64 0) (.int .i64 0) (.string ⟨#[]⟩) (.slice none 0 0) (.slice none 0 0))
      have HA : Hid (getR (splitP p) t = (zeroT, 1)) := hidI (by rw [SP.out]; unfold getR; rw [if_neg (by simp), if_pos hg])
      clear hg
      go_wp2_with fail
      obtain ⟨z0, z1, z2, z3, z4, -⟩ := ZB.out.c
      refine bodyPost_ret (v := .tuple #[.agg #[.int .i64 0, .int .i64 0, .string ⟨#[]⟩, .slice none 0 0, .slice none 0 0], .int .i64 1]) ?_ rfl ?_
      · simp only [set5] at z0 z1 z2 z3 z4
        simp [results, Tryd.results7, go_sem, z0, z1, z2, z3, z4]
      · refine ⟨_, by rw [HA.out], Z.out, ?_⟩
        rw [HA.out]
        exact in_zero _ _
    | true =>
      have HG := hidI hg
      clear hg
      have S0 : Hid (GetI w ok t ns na nc 0 w2) := ⟨t, a1, a2, c1, c2, rfl, K2.out.1, K2.out.2.1, K2.out.2.2.1, H.out.bel K2.out.2.2.1, K2.out.2.2.2⟩
      clear K2
      go_wp2_with fail
      go_loopg [27] ns.length (fun gk i wr => ∃ k : Nat, k ≤ ns.length ∧ gk = ns.length - k ∧ i = .int .i64 k ∧ GetI w ok t ns na nc k wr)
      case atStart => exact ⟨0, Nat.zero_le _, rfl, rfl, S0.out⟩
      case round =>
        obtain ⟨k, hk, hgk, rfl, y, a5, a6, c5, c6, i1, i2, i3, i4, i5, i6⟩ := hrel
        have GK := hidI hgk
        have I : Hid (getV ns t = getV (ns.drop k) y ∧ BoxIs wr w.heap.size (.int .i64 y.kind) (.int .i64 y.n) (.string ⟨y.s.toArray⟩) (.slice a5 y.keys.length c5) (.slice a6 y.l.length c6) ∧ BoxIs wr (w.heap.size + 1) (.int .i64 0) (.int .i64 0) (.string ⟨#[]⟩) (.slice none 0 0) (.slice none 0 0) ∧ Below w.heap.size w wr ∧ In wr (fun k => ok k ∧ k < w.heap.size) y (.agg #[.int .i64 y.kind, .int .i64 y.n, .string ⟨y.s.toArray⟩, .slice a5 y.keys.length c5, .slice a6 y.l.length c6]) ∧ StrsAre wr (fun k => w.heap.size + 2 ≤ k) ns (.slice na ns.length nc)) := ⟨i1, i2, i3, i4, i5, i6⟩
        obtain ⟨p0, p1, p2, p3, p4, p5, p6, p7, p8, p9⟩ := i2.c
        clear hgk i1 i2 i3 i4 i5 i6
        by_cases hlt : k < ns.length
        · obtain ⟨nb, no, rfl, hc1, hc2, hc⟩ := strs_cells I.out.2.2.2.2.2 hlt
          unfold maxLen at hc2
          have hsl : ns[k].length ≤ 9223372036854775807 := I.out.2.2.2.2.2.mem _ (List.getElem_mem _)
          go_wp2_with fail
          refine (meant_is _ (fun k => ok k ∧ k < w.heap.size) y _ ns[k] (by exact I.out.2.2.2.2.1) hsl).mono ?_
          rintro e w3 ⟨r, b, rfl, hb3, hb, u, hu, huz⟩
          obtain ⟨b5, b6, d5, d6, rfl⟩ := hu.form
          have hbb := bel_trans hb3 (bel_alloc w3 (.cells #[.int .i64 u.kind, .int .i64 u.n, .string ⟨u.s.toArray⟩, .slice b5 u.keys.length d5, .slice b6 u.l.length d6] 25))
          have K3 : Hid (BoxIs (w3.alloc (.cells #[.int .i64 u.kind, .int .i64 u.n, .string ⟨u.s.toArray⟩, .slice b5 u.keys.length d5, .slice b6 u.l.length d6] 25)) w.heap.size (.int .i64 y.kind) (.int .i64 y.n) (.string ⟨y.s.toArray⟩) (.slice a5 y.keys.length c5) (.slice a6 y.l.length c6) ∧ BoxIs (w3.alloc (.cells #[.int .i64 u.kind, .int .i64 u.n, .string ⟨u.s.toArray⟩, .slice b5 u.keys.length d5, .slice b6 u.l.length d6] 25)) (w.heap.size + 1) (.int .i64 0) (.int .i64 0) (.string ⟨#[]⟩) (.slice none 0 0) (.slice none 0 0) ∧ Below w.heap.size w (w3.alloc (.cells #[.int .i64 u.kind, .int .i64 u.n, .string ⟨u.s.toArray⟩, .slice b5 u.keys.length d5, .slice b6 u.l.length d6] 25)) ∧ BoxIs (w3.alloc (.cells #[.int .i64 u.kind, .int .i64 u.n, .string ⟨u.s.toArray⟩, .slice b5 u.keys.length d5, .slice b6 u.l.length d6] 25)) w3.heap.size (.int .i64 u.kind) (.int .i64 u.n) (.string ⟨u.s.toArray⟩) (.slice b5 u.keys.length d5) (.slice b6 u.l.length d6) ∧ In (w3.alloc (.cells #[.int .i64 u.kind, .int .i64 u.n, .string ⟨u.s.toArray⟩, .slice b5 u.keys.length d5, .slice b6 u.l.length d6] 25)) (fun k => ok k ∧ k < w.heap.size) u (.agg #[.int .i64 u.kind, .int .i64 u.n, .string ⟨u.s.toArray⟩, .slice b5 u.keys.length d5, .slice b6 u.l.length d6]) ∧ StrsAre (w3.alloc (.cells #[.int .i64 u.kind, .int .i64 u.n, .string ⟨u.s.toArray⟩, .slice b5 u.keys.length d5, .slice b6 u.l.length d6] 25)) (fun k => w.heap.size + 2 ≤ k) ns (.slice (some ⟨nb, no, none⟩) ns.length nc)) := ⟨box_bel hbb I.out.2.1, box_bel hbb I.out.2.2.1, bel_trans I.out.2.2.2.1 hbb, heap_alloc_new w3 _, hu.bel (bel_alloc _ _), I.out.2.2.2.2.2.bel hbb⟩
          have GS : Hid (getV (ns.drop k) y = (meantV y ns[k]).bind (getV (ns.drop (k + 1)))) := hidI (by rw [List.drop_eq_getElem_cons hlt, getV])
          clear hb3 hbb hu hc p0 p1 p2 p3 p4 p5 p6 p7 p8 p9
          obtain ⟨o0, o1, o2, o3, o4, o5, o6, o7, o8, o9⟩ := K3.out.1.c
          obtain ⟨q0, q1, q2, q3, q4, -⟩ := K3.out.2.2.2.1.c
          cases hm : meantV y ns[k] with
          | none =>
            rw [hm] at hb
            simp only [Option.isSome_none] at hb
            subst hb
            obtain ⟨x0, x1, x2, x3, x4, y0, y1, y2, y3, y4⟩ := (K3.out.2.1).c
            have Z := hidI (bel_set5 K3.out.2.2.1 (Nat.le_succ w.heap.size) (.int .i64 0) (.int .i64 0) (.string ⟨#[]⟩) (.slice none 0 0) (.slice none 0 0))
            have ZB := hidI ((K3.out.2.1).set (.int .i64 0) (.int .i64 0) (.string ⟨#[]⟩) (.slice none 0 0) (.slice none 0 0))
            have HA : Hid (getR (splitP p) t = (zeroT, 3)) := hidI (by rw [SP.out]; unfold getR; rw [if_neg (by simp), if_neg (by simp [HG.out]), I.out.1, GS.out, hm]; rfl)
            clear hm huz o0 o1 o2 o3 o4 o5 o6 o7 o8 o9 q0 q1 q2 q3 q4
            go_wp2_with fail
            obtain ⟨z0, z1, z2, z3, z4, -⟩ := ZB.out.c
            refine bodyPost_ret (v := .tuple #[.agg #[.int .i64 0, .int .i64 0, .string ⟨#[]⟩, .slice none 0 0, .slice none 0 0], .int .i64 3]) ?_ rfl ?_
            · simp only [set5] at z0 z1 z2 z3 z4
              simp [results, Tryd.results7, go_sem, z0, z1, z2, z3, z4]
            · refine ⟨_, by rw [HA.out], Z.out, ?_⟩
              rw [HA.out]
              exact in_zero _ _
          | some z9 =>
            rw [hm] at hb
            simp only [Option.isSome_some] at hb
            subst hb
            obtain rfl := huz z9 hm
            have HM := hidI hm
            have FIN : Hid (GetI w ok t ns (some ⟨nb, no, none⟩) nc (k + 1) (set5 (w3.alloc (.cells #[.int .i64 u.kind, .int .i64 u.n, .string ⟨u.s.toArray⟩, .slice b5 u.keys.length d5, .slice b6 u.l.length d6] 25)) w.heap.size (.int .i64 u.kind) (.int .i64 u.n) (.string ⟨u.s.toArray⟩) (.slice b5 u.keys.length d5) (.slice b6 u.l.length d6))) := by
              have g1 := set5_gb (w3.alloc (.cells #[.int .i64 u.kind, .int .i64 u.n, .string ⟨u.s.toArray⟩, .slice b5 u.keys.length d5, .slice b6 u.l.length d6] 25)) w.heap.size (.int .i64 u.kind) (.int .i64 u.n) (.string ⟨u.s.toArray⟩) (.slice b5 u.keys.length d5) (.slice b6 u.l.length d6)
              refine ⟨u, b5, b6, d5, d6, ?_, K3.out.1.set _ _ _ _ _, K3.out.2.1.grown g1 (by simp), bel_set5 K3.out.2.2.1 (Nat.le_refl _) _ _ _ _ _, K3.out.2.2.2.2.1.grown g1 (fun k hk => by omega), K3.out.2.2.2.2.2.imp (cells_grown g1 (fun k hk e => by cases e; omega))⟩
              rw [I.out.1, GS.out, HM.out]; rfl
            clear hm huz K3
            go_wp2_with fail
            go_roundg (ns.length - (k + 1))
            case measure => rw [GK.out]; omega
            case rel => exact ⟨k + 1, hlt, rfl, by go_num, FIN.out⟩
        · have hke : k = ns.length := by omega
          subst hke
          obtain ⟨x0, x1, x2, x3, x4, y0, y1, y2, y3, y4⟩ := I.out.2.2.1.c
          have Z := hidI (bel_set5 I.out.2.2.2.1 (Nat.le_succ w.heap.size) (.int .i64 y.kind) (.int .i64 y.n) (.string ⟨y.s.toArray⟩) (.slice a5 y.keys.length c5) (.slice a6 y.l.length c6))
          have ZI := hidI ((I.out.2.2.2.2.1.grown (set5_gb wr (w.heap.size + 1) (.int .i64 y.kind) (.int .i64 y.n) (.string ⟨y.s.toArray⟩) (.slice a5 y.keys.length c5) (.slice a6 y.l.length c6)) (fun k hk => by omega)).weak fun k hk => hk.1)
          have ZB := hidI (I.out.2.2.1.set (.int .i64 y.kind) (.int .i64 y.n) (.string ⟨y.s.toArray⟩) (.slice a5 y.keys.length c5) (.slice a6 y.l.length c6))
          have HA : Hid (getR (splitP p) t = (y, 0)) := hidI (by rw [SP.out]; refine get_ok rfl HG.out ?_; rw [I.out.1, List.drop_length]; rfl)
          go_wp2_with fail
          obtain ⟨z0, z1, z2, z3, z4, -⟩ := ZB.out.c
          refine bodyPost_ret (v := .tuple #[.agg #[.int .i64 y.kind, .int .i64 y.n, .string ⟨y.s.toArray⟩, .slice a5 y.keys.length c5, .slice a6 y.l.length c6], .int .i64 0]) ?_ rfl ?_
          · simp only [set5] at z0 z1 z2 z3 z4
            simp [results, Tryd.results7, go_sem, z0, z1, z2, z3, z4]
          · refine ⟨_, by rw [HA.out], Z.out, ?_⟩
            rw [HA.out]
            exact ZI.out
  · have e1 : (ee != 0) = true := by rw [bne_iff_ne]; exact he
    have e2 : (ee == 0) = false := by rw [beq_eq_false_iff_ne]; exact he
    have HE := hidI he
    clear he
    obtain ⟨x0, x1, x2, x3, x4, y0, y1, y2, y3, y4⟩ := (K1.out.2.1).c
    have Z := hidI (bel_set5 K1.out.2.2.1 (Nat.le_succ w.heap.size) (.int .i64 0) (.int .i64 0) (.string ⟨#[]⟩) (.slice none 0 0) (.slice none 0 0))
    have ZB := hidI ((K1.out.2.1).set (.int .i64 0) (.int .i64 0) (.string ⟨#[]⟩) (.slice none 0 0) (.slice none 0 0))
    have HA : Hid (getR (splitP p) t = (zeroT, ee)) := hidI (by rw [SP.out]; unfold getR; rw [if_pos HE.out])
    clear K1
    go_wp2_with fail
    obtain ⟨z0, z1, z2, z3, z4, -⟩ := ZB.out.c
    refine bodyPost_ret (v := .tuple #[.agg #[.int .i64 0, .int .i64 0, .string ⟨#[]⟩, .slice none 0 0, .slice none 0 0], .int .i64 ee]) ?_ rfl ?_
    · simp only [set5] at z0 z1 z2 z3 z4
      simp [results, Tryd.results7, go_sem, z0, z1, z2, z3, z4]
    · refine ⟨_, by rw [HA.out], Z.out, ?_⟩
      rw [HA.out]
      exact in_zero _ _

end Go.Proofs.YtaifciobaapehaaDoor

/- Digits, plainly: what decimal of the reference makes of a number; when a name is a number. -/
set_option linter.unusedSimpArgs false
set_option linter.unusedVariables false
namespace Go.Proofs.YtaifciobaapehaaDoor
open Go.RowKit
/- A number's digits, as decimal of the reference has them. -/
def decS (n : Nat) : List UInt8 := if h : n < 10 then [UInt8.ofNat (48 + n)] else decS (n / 10) ++ [UInt8.ofNat (48 + n % 10)]
theorem decS_small {n : Nat} (h : n < 10) : decS n = [UInt8.ofNat (48 + n)] := by rw [decS, dif_pos h]
theorem decS_big {n : Nat} (h : 10 ≤ n) : decS n = decS (n / 10) ++ [UInt8.ofNat (48 + n % 10)] := by rw [decS, dif_neg (by omega)]
theorem decS_parts {n : Nat} (h : 10 ≤ n) : decS n = decS (n / 10) ++ decS (n % 10) := by rw [decS_big h, decS_small (n := n % 10) (by omega)]
theorem dig_nat {d : Nat} (h : d < 10) : (UInt8.ofNat (48 + d)).toNat = 48 + d := by rw [UInt8.toNat_ofNat']; omega
theorem head_app {a b : List UInt8} (h : a ≠ []) : (a ++ b).head? = a.head? := by cases a with | nil => exact absurd rfl h | cons x a => rfl
theorem numF_append (s t : List UInt8) : ∀ (a : Nat), numF a (s ++ t) = (numF a s).bind fun b => numF b t := by
  induction s with
  | nil => intro a; rfl
  | cons c s ih =>
    intro a
    rw [List.cons_append, numF, numF]
    split
    · exact ih _
    · rfl
theorem numF_dec (n : Nat) : numF 0 (decS n) = some n := by
  induction n using Nat.strongRecOn with
  | _ n ih =>
    by_cases h : n < 10
    · rw [decS_small h]
      simp only [numF, dig_nat h]
      rw [if_pos (by omega)]
      simp
    · rw [decS_big (by omega), numF_append, ih (n / 10) (by omega)]
      simp only [Option.bind_some, numF, dig_nat (show n % 10 < 10 by omega)]
      rw [if_pos (by omega)]
      congr 1
      omega
theorem dec_ne_nil (n : Nat) : decS n ≠ [] := by
  by_cases h : n < 10
  · rw [decS_small h]; simp
  · rw [decS_big (by omega)]; simp
theorem dec_head (n : Nat) (hn : 0 < n) : (decS n).head? ≠ some 48 := by
  induction n using Nat.strongRecOn with
  | _ n ih =>
    by_cases h : n < 10
    · rw [decS_small h]
      simp only [List.head?_cons, ne_eq, Option.some.injEq]
      intro e
      have := congrArg UInt8.toNat e
      rw [dig_nat h] at this
      simp at this
      omega
    · rw [decS_big (by omega), head_app (dec_ne_nil _)]
      exact ih (n / 10) (by omega) (by omega)
theorem dec_len {n : Nat} : ∀ (d : Nat), n < 10 ^ (d + 1) → (decS n).length ≤ d + 1 := by
  intro d
  induction d generalizing n with
  | zero => intro h; rw [decS_small (by simpa using h)]; simp
  | succ d ih =>
    intro h
    by_cases h0 : n < 10
    · rw [decS_small h0]; simp
    · rw [decS_big (by omega), List.length_append]
      have := ih (n := n / 10) (by rw [Nat.pow_succ] at h; omega)
      simp; omega
theorem num_dec {n : Nat} (h : n ≤ 9999) : numP (decS n) = some n := by
  unfold numP
  rw [if_neg, numF_dec]
  rintro (h1 | h1 | ⟨h1, h2⟩)
  · exact dec_ne_nil n h1
  · have := dec_len (n := n) 3 (by omega); omega
  · by_cases h0 : n = 0
    · subst h0; exact h2 (by rw [decS_small (by omega)]; rfl)
    · exact dec_head n (by omega) h1
theorem numF_pos (s : List UInt8) : ∀ (a m : Nat), 0 < a → numF a s = some m → 0 < m := by
  induction s with
  | nil => intro a m h e; simp [numF] at e; omega
  | cons c s ih =>
    intro a m h e
    rw [numF] at e
    split at e
    · exact ih _ m (by omega) e
    · cases e
theorem num_some (s : List UInt8) (hs : s ≠ []) : ∀ (k : Nat), numF 0 s = some k → (s.head? = some 48 → s = [48]) → s = decS k := by
  obtain ⟨n, hn⟩ : ∃ n, s.length = n := ⟨_, rfl⟩
  induction n generalizing s with
  | zero => exact absurd (List.eq_nil_of_length_eq_zero hn) hs
  | succ n ih =>
    intro k hk hz
    obtain ⟨t, c, rfl⟩ : ∃ t c, s = t ++ [c] := ⟨s.dropLast, s.getLast hs, (List.dropLast_concat_getLast hs).symm⟩
    rw [numF_append] at hk
    cases ht : numF 0 t with
    | none => rw [ht] at hk; cases hk
    | some m =>
      rw [ht] at hk
      simp only [Option.bind_some, numF] at hk
      split at hk
      · rename_i hc
        simp only [Option.some.injEq] at hk
        have hc8 : UInt8.ofNat (48 + k % 10) = c := by
          have e1 : k % 10 = c.toNat - 48 := by omega
          rw [e1, show 48 + (c.toNat - 48) = c.toNat by omega]
          exact UInt8.ofNat_toNat
        by_cases h0 : t = []
        · subst h0
          simp only [numF, Option.some.injEq] at ht
          have hk10 : k < 10 := by omega
          rw [decS_small hk10, List.nil_append]
          rw [← hc8, show k % 10 = k by omega]
        · have hh : t.head? = (t ++ [c]).head? := by rw [head_app h0]
          have ht48 : t.head? ≠ some 48 := by
            intro e
            have := hz (by rw [← hh]; exact e)
            have := congrArg List.length this
            simp only [List.length_append, List.length_cons, List.length_nil] at this
            exact h0 (List.eq_nil_of_length_eq_zero (by omega))
          have e := ih t h0 (by simp at hn; omega) m ht (fun e => absurd e ht48)
          have hm : 0 < m := by
            cases t with
            | nil => exact absurd rfl h0
            | cons d t' =>
              rw [numF] at ht
              split at ht
              · rename_i hd
                have : d.toNat ≠ 48 := fun e => ht48 (by
                  have : d = 48 := UInt8.toNat_inj.1 (by simpa using e)
                  rw [this]; rfl)
                exact numF_pos t' _ m (by omega) ht
              · cases ht
          have hk10 : 10 ≤ k := by omega
          rw [decS_big hk10, show k / 10 = m by omega, ← e, hc8]
      · cases hk
theorem num_iff {s : List UInt8} {k : Nat} (h : numP s = some k) : s = decS k ∧ k ≤ 9999 := by
  unfold numP at h
  split at h
  · cases h
  · rename_i hn
    simp only [not_or, not_and, Decidable.not_not] at hn
    obtain ⟨h1, h2, h3⟩ := hn
    have e := num_some s h1 k h (fun e => h3 e)
    refine ⟨e, ?_⟩
    by_cases hk : k ≤ 9999
    · exact hk
    · exfalso
      have : ∀ n, 10000 ≤ n → 5 ≤ (decS n).length := by
        intro n
        induction n using Nat.strongRecOn with
        | _ n ih =>
          intro hn
          rw [decS_big (by omega), List.length_append]
          by_cases h : 100000 ≤ n
          · have := ih (n / 10) (by omega) (by omega); simp; omega
          · have l1 : (decS (n / 10)).length ≥ 4 := by
              rw [decS_big (n := n / 10) (by omega), List.length_append, decS_big (n := n / 10 / 10) (by omega), List.length_append, decS_big (n := n / 10 / 10 / 10) (by omega), List.length_append]
              have := dec_ne_nil (n / 10 / 10 / 10 / 10)
              have := List.length_pos_iff.2 this
              simp
              omega
            simp; omega
      have := this k (by omega)
      rw [← e] at this
      omega
end Go.Proofs.YtaifciobaapehaaDoor

/- What decimal and place of package stairwellref do. -/
set_option linter.unusedSimpArgs false
set_option linter.unusedVariables false
namespace Go.Proofs.YtaifciobaapehaaDoor
open Go.RowKit

theorem cat_dec (a b : List UInt8) : ByteArray.mk a.toArray ++ ByteArray.mk b.toArray = ByteArray.mk (a ++ b).toArray := ba_app a b
set_option maxRecDepth 100000 in
set_option maxHeartbeats 4000000 in
theorem rdec_small (w : World) (n : Nat) (hn : n < 10) :
    Calls Tryd.prog 69 #[.int .i64 n] w fun e w' => e = .returned (str (decS n)) ∧ Below w.heap.size w w' := by
  have HD := hidI (decS_small hn)
  have d0 : ¬ (n : Int) < 0 := by omega
  have d1 : (n : Int) < 10 := by omega
  have d2 : (0 : Int) ≤ (n : Int) := by omega
  obtain ⟨c, hc⟩ : ∃ c, Hid (UInt8.ofNat (48 + n) = c) := ⟨_, hidI rfl⟩
  have h8 : Hid (c.toNat = 48 + n) := hidI (by rw [← hc.out, UInt8.toNat_ofNat']; omega)
  rw [hc.out] at HD
  have kc : (convert 94 9 (.slice (some ⟨w.heap.size, 0, none⟩) 1 1)).run Tryd.prog (w.alloc (.cells #[.int .u8 (48 + (n : Int))] 5)) = .ok (.string ⟨#[c]⟩) (w.alloc (.cells #[.int .u8 (48 + (n : Int))] 5)) := by
    have h := run_convert_bytes_back (P := Tryd.prog) (w.alloc (.cells #[.int .u8 (48 + (n : Int))] 5)) 94 9 5 ⟨w.heap.size, 0, none⟩ 1 [c] Tryd.underlying94 Tryd.underlying5 Tryd.underlying9 (by
      intro j hj
      have hj0 : j = 0 := by simp at hj; omega
      subst hj0
      have hv : (([c] : List UInt8)[0].toNat : Int) = 48 + (n : Int) := by simp [h8.out]
      rw [hv]
      exact World.cell?_alloc_at _ _ _ _ rfl)
    exact h
  unfold str
  go_enter Tryd.func69, Tryd.ntmps69
  go_wp2_with fail
  go_ret
  refine ⟨?_, ?_⟩
  · rw [HD.out]; rfl
  · exact bel_alloc _ _
theorem decS_short {n : Nat} (h : n ≤ 9223372036854775807) : (decS n).length ≤ 20 :=
  dec_len 19 (Nat.lt_of_le_of_lt h (by decide))
set_option maxRecDepth 100000 in
set_option maxHeartbeats 4000000 in
theorem rdec_nat (d : Nat) : ∀ (w : World) (n : Nat), n < 10 ^ (d + 1) → n ≤ 9223372036854775807 →
    Calls Tryd.prog 69 #[.int .i64 n] w fun e w' => e = .returned (str (decS n)) ∧ Below w.heap.size w w' := by
  induction d with
  | zero => intro w n h _; exact rdec_small w n (by simpa using h)
  | succ d ih =>
    intro w n h hb
    by_cases hn : n < 10
    · exact rdec_small w n hn
    · have HD := hidI (decS_parts (n := n) (by omega))
      have HL : Hid (n / 10 < 10 ^ (d + 1) ∧ n / 10 ≤ 9223372036854775807 ∧ n % 10 < 10) := hidI ⟨by rw [Nat.pow_succ] at h; omega, by omega, by omega⟩
      have IH := hidI ih
      have hlen : ¬ 9223372036854775807 < (decS (n / 10)).length + (decS (n % 10)).length := by
        have h1 := decS_short (n := n / 10) (by omega)
        have h2 := decS_short (n := n % 10) (by omega)
        omega
      have d0 : ¬ (n : Int) < 0 := by omega
      have d1 : ¬ (n : Int) < 10 := by omega
      have hq : (n : Int).tdiv 10 = ((n / 10 : Nat) : Int) := by rw [Int.tdiv_eq_ediv_of_nonneg (by omega)]; omega
      have hr : (n : Int).tmod 10 = ((n % 10 : Nat) : Int) := by rw [Int.tmod_eq_emod_of_nonneg (by omega)]; omega
      clear ih h
      go_enter Tryd.func69, Tryd.ntmps69
      go_wp2_with fail
      refine (IH.out _ (n / 10) HL.out.1 HL.out.2.1).mono ?_
      rintro e w1 ⟨rfl, hb1⟩
      have K1 := hidI hb1
      clear hb1
      unfold str
      go_wp2_with fail
      refine (rdec_small _ (n % 10) HL.out.2.2).mono ?_
      rintro e w2 ⟨rfl, hb2⟩
      have K2 := hidI (bel_trans K1.out hb2)
      clear hb2
      unfold str
      go_wp2_with fail
      go_ret
      refine ⟨?_, K2.out⟩
      rw [HD.out, str, ← cat_dec]
      rfl
end Go.Proofs.YtaifciobaapehaaDoor

/- What place of package stairwellref does. -/
set_option linter.unusedSimpArgs false
set_option linter.unusedVariables false
namespace Go.Proofs.YtaifciobaapehaaDoor
open Go.RowKit

theorem place_dec {n k : Nat} {s : List UInt8} (hs : s ≠ [45]) (h : decS k = s) (h1 : k ≤ 9999) (h2 : k ≤ n) : placeP n s = some k := by
  unfold placeP
  rw [if_neg hs, ← h, num_dec h1]
  simp [h2]
theorem place_not {n : Nat} {s : List UInt8} (hs : s ≠ [45]) (h : ∀ k, k ≤ 9999 → k ≤ n → decS k ≠ s) : placeP n s = none := by
  unfold placeP
  rw [if_neg hs]
  cases hn : numP s with
  | none => rfl
  | some k =>
    obtain ⟨h1, h2⟩ := num_iff hn
    show (if k ≤ n then some k else none) = none
    rw [if_neg fun h3 => h k h2 h3 h1.symm]
set_option maxRecDepth 100000 in
set_option maxHeartbeats 4000000 in
theorem rplace_dash (w : World) (n : Nat) (hn : n ≤ 9223372036854775807) :
    Calls Tryd.prog 49 #[str [45], .int .i64 n] w fun e w' => e = .returned (.int .i64 n) ∧ Below w.heap.size w w' := by
  unfold str
  go_enter Tryd.func49, Tryd.ntmps49
  go_wp2_with fail
  go_ret
  exact ⟨rfl, Below.refl _ _⟩
set_option maxRecDepth 100000 in
set_option maxHeartbeats 4000000 in
theorem rplace_num (w : World) (s : List UInt8) (n : Nat) (hn : n ≤ 9223372036854775807) (hs : s ≠ [45]) :
    Calls Tryd.prog 49 #[str s, .int .i64 n] w fun e w' => e = .returned (.int .i64 (optI (placeP n s))) ∧ Below w.heap.size w w' := by
  have HS := hidI hs
  have hne : (s == [45]) = false := by rw [beq_eq_false_iff_ne]; exact hs
  clear hs
  unfold str
  go_enter Tryd.func49, Tryd.ntmps49
  go_wp2_with fail
  go_loopg [5] 10000 (fun gk kv wr => ∃ k : Nat, k ≤ 10000 ∧ k ≤ n + 1 ∧ gk = 10000 - k ∧ kv = .int .i64 k ∧ Hid (∀ j, j < k → decS j ≠ s) ∧ Below w.heap.size w wr)
  case atStart => exact ⟨0, by omega, by omega, rfl, rfl, hidI (fun j hj => absurd hj (by omega)), Below.refl _ _⟩
  case round =>
    obtain ⟨k, hk1, hk2, hgk, rfl, HJ, hbl⟩ := hrel
    have GK := hidI hgk
    have BL := hidI hbl
    clear hgk hbl
    by_cases h1 : k ≤ 9999
    · have d1 : (k : Int) ≤ 9999 := by omega
      by_cases h2 : k ≤ n
      · have d2 : (k : Int) ≤ (n : Int) := by omega
        go_wp2_with fail
        refine (rdec_nat 18 _ k (Nat.lt_of_le_of_lt h1 (by decide)) (by omega)).mono ?_
        rintro e w1 ⟨rfl, hb1⟩
        have B1 := hidI (bel_trans BL.out hb1)
        clear hb1
        unfold str
        by_cases he : decS k = s
        · have e1 : (decS k == s) = true := by rw [beq_iff_eq]; exact he
          have FIN := hidI (place_dec HS.out he h1 h2)
          clear he
          go_wp2_with fail
          go_ret
          exact ⟨by rw [FIN.out]; rfl, B1.out⟩
        · have e1 : (decS k == s) = false := by rw [beq_eq_false_iff_ne]; exact he
          have HN : Hid (∀ j, j < k + 1 → decS j ≠ s) := hidI (by
            intro j hj
            by_cases h : j = k
            · rw [h]; exact he
            · exact HJ.out j (by omega))
          clear he
          go_wp2_with fail
          go_roundg (10000 - (k + 1))
          case measure => rw [GK.out]; omega
          case rel => exact ⟨k + 1, by omega, by omega, rfl, by go_num, HN, B1.out⟩
      · have d2 : ¬ (k : Int) ≤ (n : Int) := by omega
        have FIN : Hid (placeP n s = none) := hidI (place_not HS.out fun j _ hj => HJ.out j (by omega))
        go_wp2_with fail
        go_ret
        exact ⟨by rw [FIN.out]; rfl, BL.out⟩
    · have d1 : ¬ (k : Int) ≤ 9999 := by omega
      have FIN : Hid (placeP n s = none) := hidI (place_not HS.out fun j hj _ => HJ.out j (by omega))
      go_wp2_with fail
      go_ret
      exact ⟨by rw [FIN.out]; rfl, BL.out⟩
theorem rplace_is (w : World) (s : List UInt8) (n : Nat) (hn : n ≤ 9223372036854775807) :
    Calls Tryd.prog 49 #[str s, .int .i64 n] w fun e w' => e = .returned (.int .i64 (optI (placeP n s))) ∧ Below w.heap.size w w' := by
  by_cases h : s = [45]
  · subst h
    refine (rplace_dash w n hn).mono ?_
    rintro e w' ⟨rfl, hb⟩
    exact ⟨rfl, hb⟩
  · exact rplace_num w s n hn h
end Go.Proofs.YtaifciobaapehaaDoor

/- Merge, Clean and Diff, plainly. -/
set_option linter.unusedSimpArgs false
set_option linter.unusedVariables false
namespace Go.Proofs.YtaifciobaapehaaDoor
open Go.RowKit

/- An object in order. -/
def Ob (t : V) : Prop := t.kind = 5 ∧ t.n = 0 ∧ t.s = [] ∧ t.keys.length = t.l.length ∧ Rises t.keys
theorem Ob.paired {t : V} (h : Ob t) : pairedV t = true := by simp [pairedV, h.1, h.2.2.2.1]
theorem ob_of {t : V} (hs : shapedB t = true) (hk : t.kind = 5) : Ob t := by
  obtain ⟨h1, h2, h3, h4⟩ := shaped_object hs hk
  simp only [pairedV, Bool.and_eq_true, decide_eq_true_eq] at h1
  exact ⟨hk, h3, h4, h1.2, (rise_pair _ _ h2).2.1⟩
theorem look_mem {k : List UInt8} {ps : List (List UInt8 × V)} {x : V} (h : look k ps = some x) : (k, x) ∈ ps := by
  induction ps with
  | nil => cases h
  | cons p ps ih =>
    rw [look] at h
    split at h
    · rename_i e; cases h; rw [← e]; simp
    · simp [ih h]
/- Rising pairs that answer alike are the same. -/
theorem look_ext : ∀ (a b : List (List UInt8 × V)), (a.map Prod.fst).Pairwise (fun x y => Op.bytesLess x y = true) → (b.map Prod.fst).Pairwise (fun x y => Op.bytesLess x y = true) → (∀ k, look k a = look k b) → a = b
  | [], [], _, _, _ => rfl
  | [], q :: b, _, _, h => by have := h q.1; simp [look] at this
  | p :: a, [], _, _, h => by have := h p.1; simp [look] at this
  | p :: a, q :: b, ha, hb, h => by
    rw [List.map_cons, List.pairwise_cons] at ha hb
    have less : ∀ x y : List UInt8, Op.bytesLess x y = true → Op.bytesLess y x = true → False := fun x y h1 h2 => by
      have := less_trans x y x h1 h2; rw [less_irrefl] at this; cases this
    have hk : p.1 = q.1 := by
      have h1 := h p.1
      have h2 := h q.1
      rw [look, if_pos rfl, look] at h1
      rw [look] at h2
      split at h1
      · rename_i e; exact e.symm
      · rename_i e
        have m1 := look_mem h1.symm
        have l1 := hb.1 p.1 (List.mem_map.2 ⟨_, m1, rfl⟩)
        rw [if_neg (fun e' => e e'.symm), look, if_pos rfl] at h2
        have m2 := look_mem h2
        have l2 := ha.1 q.1 (List.mem_map.2 ⟨_, m2, rfl⟩)
        exact (less _ _ l1 l2).elim
    have hv : p.2 = q.2 := by
      have h1 := h p.1
      rw [look, if_pos rfl, look, if_pos hk.symm] at h1
      exact Option.some.inj h1
    have hp : p = q := Prod.ext hk hv
    subst hp
    congr 1
    refine look_ext a b ha.2 hb.2 fun k => ?_
    have h1 := h k
    rw [look, look] at h1
    by_cases e : p.1 = k
    · have n1 : look k a = none := look_none fun r hr e' => by
        have := ha.1 r.1 (List.mem_map.2 ⟨r, hr, rfl⟩)
        rw [e, ← e', less_irrefl] at this; cases this
      have n2 : look k b = none := look_none fun r hr e' => by
        have := hb.1 r.1 (List.mem_map.2 ⟨r, hr, rfl⟩)
        rw [e, ← e', less_irrefl] at this; cases this
      rw [n1, n2]
    · rwa [if_neg e, if_neg e] at h1
theorem zip_inj {a b : List (List UInt8)} {c d : List V} (h1 : a.length = c.length) (h2 : b.length = d.length) (h : a.zip c = b.zip d) : a = b ∧ c = d := by
  have e1 := congrArg (List.map Prod.fst) h
  have e2 := congrArg (List.map Prod.snd) h
  rw [List.map_fst_zip (by omega), List.map_fst_zip (by omega)] at e1
  rw [List.map_snd_zip (by omega), List.map_snd_zip (by omega)] at e2
  exact ⟨e1, e2⟩
theorem ob_ext {t u : V} (ht : Ob t) (hu : Ob u) (h : ∀ k, memV t k = memV u k) : t = u := by
  have hz : t.keys.zip t.l = u.keys.zip u.l := look_ext _ _
    (by rw [List.map_fst_zip (by have := ht.2.2.2.1; omega)]; exact ht.2.2.2.2)
    (by rw [List.map_fst_zip (by have := hu.2.2.2.1; omega)]; exact hu.2.2.2.2)
    fun k => by rw [← memV_look ht.paired, ← memV_look hu.paired]; exact h k
  obtain ⟨e1, e2⟩ := zip_inj ht.2.2.2.1 hu.2.2.2.1 hz
  rw [← V_eta t, ← V_eta u, ht.1, hu.1, ht.2.1, hu.2.1, ht.2.2.1, hu.2.2.1, e1, e2]
/- With and Without keep the order. -/
theorem less_total : ∀ (a b : List UInt8), Op.bytesLess a b = false → a ≠ b → Op.bytesLess b a = true
  | [], [], _, h => absurd rfl h
  | [], _ :: _, h, _ => by simp [Op.bytesLess] at h
  | _ :: _, [], _, _ => by simp [Op.bytesLess]
  | x :: a, y :: b, h, hne => by
    simp only [Op.bytesLess, Bool.or_eq_false_iff, decide_eq_false_iff_not, Bool.and_eq_false_iff] at h
    simp only [Op.bytesLess, Bool.or_eq_true, Bool.and_eq_true, decide_eq_true_eq, beq_iff_eq]
    by_cases e : x = y
    · subst e
      refine .inr ⟨rfl, less_total a b ?_ (fun e => hne (by rw [e]))⟩
      rcases h.2 with h2 | h2
      · simp at h2
      · exact h2
    · left
      have h1 := h.1
      rw [UInt8.lt_iff_toNat_lt] at *
      have : x.toNat ≠ y.toNat := fun e' => e (UInt8.toNat_inj.1 e')
      omega
theorem ins_rises {key : List UInt8} {ks : List (List UInt8)} (h : Rises ks) (hn : key ∉ ks) : Rises (ks.take (insV key ks) ++ key :: ks.drop (insV key ks)) := by
  unfold Rises at *
  induction ks with
  | nil => simp [insV]
  | cons a ks ih =>
    rw [List.pairwise_cons] at h
    simp only [List.mem_cons, not_or] at hn
    unfold insV
    rw [List.takeWhile_cons]
    split
    · rename_i hl
      simp only [List.length_cons, List.take_succ_cons, List.drop_succ_cons, List.cons_append]
      rw [List.pairwise_cons]
      refine ⟨?_, ih h.2 hn.2⟩
      intro x hx
      rw [List.mem_append] at hx
      rcases hx with hx | hx
      · exact h.1 x (List.mem_of_mem_take hx)
      · rcases List.mem_cons.1 hx with rfl | hx
        · exact hl
        · exact h.1 x (List.mem_of_mem_drop hx)
    · rename_i hl
      simp only [List.length_nil, List.take_zero, List.drop_zero, List.nil_append]
      have hka := less_total _ _ (by simpa using hl) (fun e => hn.1 e.symm)
      rw [List.pairwise_cons]
      refine ⟨?_, List.pairwise_cons.2 h⟩
      intro x hx
      rcases List.mem_cons.1 hx with rfl | hx
      · exact hka
      · exact less_trans _ _ _ hka (h.1 x hx)
theorem ob_with {t : V} (h : Ob t) (k : List UInt8) (x : V) : Ob (withV t k x) := by
  have hp := h.paired
  have hp' := with_paired hp k x
  simp only [pairedV, Bool.and_eq_true, decide_eq_true_eq] at hp'
  refine ⟨hp'.1, ?_, ?_, hp'.2, ?_⟩
  · unfold withV; rw [if_pos hp]; split <;> exact h.2.1
  · unfold withV; rw [if_pos hp]; split <;> exact h.2.2.1
  · unfold withV; rw [if_pos hp]
    split
    · exact h.2.2.2.2
    · rename_i hi
      exact ins_rises h.2.2.2.2 (idxL_not hi)
theorem ob_without {t : V} (h : Ob t) (k : List UInt8) : Ob (withoutV t k) := by
  unfold withoutV
  split
  · rename_i i hi
    obtain ⟨-, -, h1, h2⟩ := findV_some hi
    have hl := h.2.2.2.1
    refine ⟨h.1, h.2.1, h.2.2.1, ?_, h.2.2.2.2.sublist (out_sub _ _)⟩
    simp only [List.length_append, List.length_take, List.length_drop]; omega
  · exact h
theorem mem_without_other {t : V} (h : Ob t) {k k' : List UInt8} (hne : k' ≠ k) : memV (withoutV t k) k' = memV t k' := by
  have ho := ob_without h k
  rw [memV_look ho.paired, memV_look h.paired]
  have hl := h.2.2.2.1
  unfold withoutV at ho ⊢
  cases hi : findV t k with
  | none => rfl
  | some i =>
    obtain ⟨-, h0, h1, h2⟩ := findV_some hi
    have hk := (idxL_lt h0).2
    simp only
    rw [List.zip_append (by simp [hl]), look_append, zip_split t.keys t.l i hl, look_append]
    congr 1
    rw [drop_at hk, List.drop_eq_getElem_cons h1, List.zip_cons_cons, look, if_neg (fun e => hne e.symm)]
/- What steps through the pairs of an object make, if each changes what is of its key alone. -/
/- P4.1: what Merge makes. -/
theorem nice_ob {t : V} (h : Nice t) : t.kind = 5 → Ob t := ob_of (nice_shaped h)
/- Merged twice it is as merged once. -/
/- P4.2: Clean; what is other. -/
/- What is clean is made of nothing. -/
/- What is other, merged into the first, makes the second. -/
end Go.Proofs.YtaifciobaapehaaDoor

/- Merge of two values: what it is made of, in memory. -/
set_option linter.unusedSimpArgs false
set_option linter.unusedVariables false
namespace Go.Proofs.YtaifciobaapehaaDoor
open Go.RowKit

/- On the way through the members. -/
end Go.Proofs.YtaifciobaapehaaDoor

/- What kid of package stairwellref does. -/
set_option linter.unusedSimpArgs false
set_option linter.unusedVariables false
namespace Go.Proofs.YtaifciobaapehaaDoor
open Go.RowKit

theorem at_opt (n : Nat) (s : List UInt8) : optI ((placeP n s).bind fun i => if i < n then some i else none) = if optI (placeP n s) < (n : Int) then optI (placeP n s) else -1 := by
  cases h : placeP n s with
  | none =>
    show (-1 : Int) = if (-1 : Int) < (n : Int) then -1 else -1
    simp
  | some i =>
    show optI (if i < n then some i else none) = if (i : Int) < (n : Int) then (i : Int) else -1
    by_cases hi : i < n
    · rw [if_pos hi, if_pos (by omega)]; rfl
    · rw [if_neg hi, if_neg (by omega)]; rfl
theorem idx_dropK {key : List UInt8} {xs : List (List UInt8)} {k : Nat} (h : k < xs.length) (hne : xs[k] ≠ key) : (idxL key (xs.drop k)).map (· + k) = (idxL key (xs.drop (k + 1))).map (· + (k + 1)) := by
  rw [List.drop_eq_getElem_cons h, idxL, if_neg hne, Option.map_map]
  congr 1
  funext x
  simp only [Function.comp]
  omega
set_option maxRecDepth 100000 in
set_option maxHeartbeats 4000000 in
theorem rkid_is (w : World) (ok : Nat → Prop) (t : V) (v : Value) (s : List UInt8) (h : In w ok t v) (hp : t.kind = 5 → t.keys.length = t.l.length) :
    Calls Tryd.prog 28 #[v, str s] w fun e w' => e = .returned (.int .i64 (optI (atV t s))) ∧ Below w.heap.size w w' := by
  have H := hidI h
  obtain ⟨l1, l2, l3⟩ := h.lens
  obtain ⟨a1, a2, c1, c2, rfl⟩ := h.form
  clear h
  unfold str
  by_cases h4 : t.kind = 4
  · have e0 : (t.kind == 4) = true := by rw [h4]; rfl
    have HA : Hid (atV t s = (placeP t.l.length s).bind fun i => if i < t.l.length then some i else none) := hidI (by unfold atV; rw [if_pos h4])
    have AO := hidI (at_opt t.l.length s)
    obtain ⟨z, hz⟩ : ∃ z, optI (placeP t.l.length s) = z := ⟨_, rfl⟩
    have HZ := hidI hz
    have hzr : -1 ≤ z ∧ z ≤ 9223372036854775807 := by
      rw [← hz]
      cases hpl : placeP t.l.length s with
      | none => exact ⟨by decide, by decide⟩
      | some i =>
        have := place_le hpl
        show -1 ≤ (i : Int) ∧ (i : Int) ≤ 9223372036854775807
        omega
    obtain ⟨hz1, hz2⟩ := hzr
    clear h4 hp hz
    go_enter Tryd.func28, Tryd.ntmps28
    go_wp2_with fail
    refine (rplace_is _ s t.l.length (by omega)).mono ?_
    rintro e w1 ⟨rfl, hb1⟩
    rw [HZ.out]
    have c4 : w1.cell? ⟨w.heap.size, 4, none⟩ = some (.slice a2 t.l.length c2) := cell_bel hb1 (World.cell?_alloc_at _ _ _ 4 rfl)
    have B1 := hidI (bel_trans (bel_alloc _ _) hb1)
    clear hb1
    by_cases hlt : z < (t.l.length : Int)
    · go_wp2_with fail
      go_ret
      exact ⟨by rw [HA.out, AO.out, HZ.out, if_pos (by omega)]; rfl, B1.out⟩
    · go_wp2_with fail
      go_ret
      exact ⟨by rw [HA.out, AO.out, HZ.out, if_neg (by omega)]; rfl, B1.out⟩
  · have e0 : (t.kind == 4) = false := by rw [beq_eq_false_iff_ne]; exact h4
    by_cases h5 : t.kind = 5
    · have e1 : (t.kind == 5) = true := by rw [h5]; rfl
      have HA : Hid (atV t s = idxL s t.keys) := hidI (by unfold atV findV pairedV; rw [if_neg h4]; simp [h5, hp h5])
      clear h4 h5 hp
      go_enter Tryd.func28, Tryd.ntmps28
      go_wp2_with fail
      go_loop [28] (fun i => ∃ k : Nat, k ≤ t.keys.length ∧ i = .int .i64 k ∧ Hid (idxL s t.keys = (idxL s (t.keys.drop k)).map (· + k))) (fun i => t.keys.length - (intOf i).toNat)
      case atStart => exact ⟨0, Nat.zero_le _, rfl, hidI (by simp)⟩
      case round =>
        obtain ⟨k, hk, rfl, HI⟩ := hrel
        by_cases hlt : k < t.keys.length
        · obtain ⟨kb, ko, rfl, j1, j2, jk, jl⟩ := H.out.key hlt
          have w1 : (0 : Int) ≤ (k : Int) := by omega
          have w2 : (k : Int) < (t.keys.length : Int) := by omega
          replace jk := cell_bel (bel_alloc w (.cells #[.int .i64 t.kind, .int .i64 t.n, .string ⟨t.s.toArray⟩, .slice (some ⟨kb, ko, none⟩) t.keys.length c1, .slice a2 t.l.length c2] 25)) jk
          by_cases he : t.keys[k] = s
          · have e3 : (t.keys[k] == s) = true := by rw [beq_iff_eq]; exact he
            have HX : Hid (atV t s = some k) := hidI (by
              rw [HA.out, HI.out, List.drop_eq_getElem_cons hlt, idxL, if_pos he]
              simp)
            clear he
            go_wp2_with fail
            go_ret
            exact ⟨by rw [HX.out]; rfl, bel_alloc _ _⟩
          · have e3 : (t.keys[k] == s) = false := by rw [beq_eq_false_iff_ne]; exact he
            have HN : Hid (idxL s t.keys = (idxL s (t.keys.drop (k + 1))).map (· + (k + 1))) := hidI (by rw [HI.out, idx_dropK hlt he])
            clear he
            go_wp2_with fail
            go_round
            case rel => exact ⟨k + 1, by omega, by go_num, HN⟩
            case measure => simp only [intOf]; omega
        · have d1 : ¬ (k : Int) < (t.keys.length : Int) := by omega
          have HX : Hid (atV t s = none) := hidI (by rw [HA.out, HI.out, List.drop_eq_nil_of_le (by omega)]; rfl)
          go_wp2_with fail
          go_ret
          exact ⟨by rw [HX.out]; rfl, bel_alloc _ _⟩
    · have e1 : (t.kind == 5) = false := by rw [beq_eq_false_iff_ne]; exact h5
      have HA : Hid (atV t s = none) := hidI (by unfold atV findV pairedV; rw [if_neg h4]; simp [h5])
      clear h4 h5 hp
      go_enter Tryd.func28, Tryd.ntmps28
      go_wp2_with fail
      go_ret
      exact ⟨by rw [HA.out]; rfl, bel_alloc _ _⟩
end Go.Proofs.YtaifciobaapehaaDoor

/- What SplitPath of the reference makes of a path, byte by byte, plainly. -/
set_option linter.unusedSimpArgs false
set_option linter.unusedVariables false
namespace Go.Proofs.YtaifciobaapehaaDoor
open Go.Lib (index count replaceK replaceAll split splitK)
/- What SplitPath of the reference does, byte by byte: behind the first sign, with the name that is under way and those that are done. -/
def spS : List UInt8 → List UInt8 → List (List UInt8) → Option (List (List UInt8))
  | [], now, l => some (l ++ [now])
  | c :: r, now, l =>
    if c = 47 then spS r [] (l ++ [now])
    else if c ≠ 126 then spS r (now ++ [c]) l
    else match r with
      | [] => none
      | d :: r' => if d = 48 then spS r' (now ++ [126]) l else if d = 49 then spS r' (now ++ [47]) l else none
theorem sp_slash (r now : List UInt8) (l : List (List UInt8)) : spS (47 :: r) now l = spS r [] (l ++ [now]) := by rw [spS.eq_def]; simp
theorem sp_char {c : UInt8} (h1 : c ≠ 47) (h2 : c ≠ 126) (r now : List UInt8) (l : List (List UInt8)) : spS (c :: r) now l = spS r (now ++ [c]) l := by rw [spS.eq_def]; simp [h1, h2]
theorem sp_m0 (r now : List UInt8) (l : List (List UInt8)) : spS (126 :: 48 :: r) now l = spS r (now ++ [126]) l := by rw [spS.eq_def]; simp
theorem sp_m1 (r now : List UInt8) (l : List (List UInt8)) : spS (126 :: 49 :: r) now l = spS r (now ++ [47]) l := by rw [spS.eq_def]; simp
theorem sp_end (now : List UInt8) (l : List (List UInt8)) : spS [126] now l = none := by rw [spS.eq_def]; simp
theorem sp_bad {d : UInt8} (h1 : d ≠ 48) (h2 : d ≠ 49) (r now : List UInt8) (l : List (List UInt8)) : spS (126 :: d :: r) now l = none := by rw [spS.eq_def]; simp [h1, h2]
theorem sp_nil (now : List UInt8) (l : List (List UInt8)) : spS [] now l = some (l ++ [now]) := by rw [spS.eq_def]
theorem sp_esc (m rest : List UInt8) : ∀ (now : List UInt8) (l : List (List UInt8)), spS (m.flatMap escP ++ rest) now l = spS rest (now ++ m) l := by
  induction m with
  | nil => intro now l; simp
  | cons c m ih =>
    intro now l
    rw [List.flatMap_cons, List.append_assoc]
    by_cases h1 : c = 126
    · subst h1
      rw [show escP 126 = [126, 48] from rfl, List.cons_append, List.cons_append, List.nil_append, sp_m0, ih]; simp
    · by_cases h2 : c = 47
      · subst h2
        rw [show escP 47 = [126, 49] from rfl, List.cons_append, List.cons_append, List.nil_append, sp_m1, ih]; simp
      · rw [show escP c = [c] by simp [escP, h1, h2], List.cons_append, List.nil_append, sp_char h2 h1, ih]; simp
theorem sp_none (n : Nat) : ∀ (r now : List UInt8) (l : List (List UInt8)), r.length ≤ n → (spS r now l = none ↔ wholeP r = false) := by
  induction n with
  | zero =>
    intro r now l h
    cases r with
    | nil => simp [sp_nil, wholeP]
    | cons c r => simp at h
  | succ n ih =>
    intro r now l h
    cases r with
    | nil => simp [sp_nil, wholeP]
    | cons c r =>
      simp only [List.length_cons] at h
      by_cases h1 : c = 47
      · subst h1
        rw [sp_slash, ih r _ _ (by omega), whole_cons 47 r (by decide)]
      · by_cases h2 : c = 126
        · subst h2
          cases r with
          | nil => simp [sp_end, wholeP]
          | cons d r =>
            simp only [List.length_cons] at h
            rw [whole_mark]
            by_cases h3 : d = 48
            · subst h3; rw [sp_m0, ih r _ _ (by omega)]; simp
            · by_cases h4 : d = 49
              · subst h4; rw [sp_m1, ih r _ _ (by omega)]; simp
              · rw [sp_bad h3 h4]; simp [h3, h4]
        · rw [sp_char h1 h2, ih r _ _ (by omega), whole_cons c r h2]
theorem sp_parts : ∀ (xs : List (List UInt8)) (x now : List UInt8) (l : List (List UInt8)), spS (glue 47 ((x :: xs).map fun m => m.flatMap escP)) now l = some (l ++ (now ++ x) :: xs)
  | [], x, now, l => by
    have := sp_esc x [] now l
    simp only [List.map_cons, List.map_nil, glue, List.flatMap_nil]
    rw [this, sp_nil]
  | y :: ys, x, now, l => by
    have h := sp_esc x (47 :: glue 47 ((y :: ys).map fun m => m.flatMap escP)) now l
    have e : glue 47 ((x :: y :: ys).map fun m => m.flatMap escP) = x.flatMap escP ++ 47 :: glue 47 ((y :: ys).map fun m => m.flatMap escP) := by simp [glue]
    rw [e, h, sp_slash, sp_parts ys y [] (l ++ [now ++ x])]
    simp
theorem whole_split (r : List UInt8) (h : wholeP r = true) : ∃ (x : List UInt8) (xs : List (List UInt8)), split r [47] = (x :: xs).map (fun m => m.flatMap escP) := by
  have hne := split_ne 47 r
  have hfree := split_free 47 r
  have hg := glue_split 47 r
  cases hs : split r [47] with
  | nil => exact absurd hs hne
  | cons y ys =>
    rw [hs] at hfree hg
    have hw := whole_parts y ys (by rw [hg]; exact h)
    have all : ∀ (zs : List (List UInt8)), (∀ z ∈ zs, 47 ∉ z ∧ wholeP z = true) → ∃ ms : List (List UInt8), zs = ms.map (fun m => m.flatMap escP) := by
      intro zs
      induction zs with
      | nil => intro _; exact ⟨[], rfl⟩
      | cons z zs ih =>
        intro hz
        obtain ⟨ms, hms⟩ := ih fun w hw => hz w (by simp [hw])
        obtain ⟨m, hm⟩ := whole_made z.length z (Nat.le_refl _) (hz z (by simp)).2 (hz z (by simp)).1
        exact ⟨m :: ms, by rw [List.map_cons, hms, hm]⟩
    obtain ⟨ms, hms⟩ := all (y :: ys) fun z hz => ⟨hfree z hz, hw z hz⟩
    cases ms with
    | nil => simp at hms
    | cons m ms => exact ⟨m, ms, hms⟩
theorem sp_split (r : List UInt8) : spS r [] [] = if wholeP r then some ((split r [47]).map unmarkedL) else none := by
  by_cases h : wholeP r = true
  · rw [if_pos h]
    obtain ⟨x, xs, e⟩ := whole_split r h
    have hg := glue_split 47 r
    have h1 := sp_parts xs x [] []
    rw [← e, hg] at h1
    rw [h1, e]
    simp [List.map_map, Function.comp_def, unmarked_marked]
  · have h' : wholeP r = false := by simpa using h
    rw [if_neg h]
    exact (sp_none r.length r [] [] (Nat.le_refl _)).2 h'
end Go.Proofs.YtaifciobaapehaaDoor

/- How many values there are in one; lists of values in memory. -/
set_option linter.unusedSimpArgs false
set_option linter.unusedVariables false
namespace Go.Proofs.YtaifciobaapehaaDoor
open Go.RowKit

/- How many values there are in one. -/
def cnt : V → Nat
  | ⟨_, _, _, _, l⟩ => 1 + (l.map cnt).sum
def cnts (xs : List V) : Nat := (xs.map cnt).sum
theorem cnts_nil : cnts [] = 0 := rfl
theorem cnts_cons (x : V) (xs : List V) : cnts (x :: xs) = cnt x + cnts xs := by simp [cnts]
theorem cnt_eq (t : V) : cnt t = 1 + cnts t.l := by cases t; rw [cnt]; rfl
theorem cnts_drop {xs : List V} {k : Nat} (h : k < xs.length) : cnts (xs.drop k) = cnt xs[k] + cnts (xs.drop (k + 1)) := by
  rw [List.drop_eq_getElem_cons h, cnts_cons]
theorem cnts_mem {xs : List V} {x : V} (h : x ∈ xs) : cnt x ≤ cnts xs := by
  induction xs with
  | nil => cases h
  | cons y xs ih =>
    rw [cnts_cons]
    rcases List.mem_cons.1 h with rfl | h
    · omega
    · have := ih h; omega
theorem cnt_sz (D : Nat) : ∀ (t : V), GoodT D t → cnt t = szD D t := by
  induction D with
  | zero => intro t h; exact h.elim
  | succ D ih =>
    intro t h
    rw [cnt_eq, szD]
    congr 1
    obtain ⟨-, h⟩ := h
    generalize t.l = l at h
    induction l with
    | nil => rfl
    | cons y l ihl =>
      rw [cnts_cons, ih y (h y (by simp)), ihl fun x hx => h x (by simp [hx])]; simp
theorem nice_cnt {t : V} (h : Nice t) : cnt t ≤ 120 := by
  obtain ⟨D, h1, h2⟩ := h
  rw [cnt_sz D t h1]; exact h2
/- How much waits. -/
def mu (ls : List (List V)) : Nat := (ls.map fun l => 1 + cnts l).sum
theorem mu_push (ls : List (List V)) (l : List V) : mu (ls ++ [l]) = mu ls + (1 + cnts l) := by simp [mu]
theorem mu_len (ls : List (List V)) : ls.length ≤ mu ls := by
  unfold mu
  induction ls with
  | nil => simp
  | cons l ls ih => simp only [List.map_cons, List.sum_cons, List.length_cons]; omega

/- A list of values in memory, whatever their depth. -/
def ValsIn (w : World) (ok : Nat → Prop) (xs : List V) (v : Value) : Prop := In w ok ⟨0, 0, [], [], xs⟩ (.agg #[.int .i64 0, .int .i64 0, .string ⟨#[]⟩, .slice none 0 0, v])
theorem ValsIn.bel {w w' : World} {ok : Nat → Prop} {xs : List V} {v : Value} (h : ValsIn w ok xs v) (hb : Below w.heap.size w w') : ValsIn w' ok xs v := In.bel h hb
theorem ValsIn.weak {w : World} {ok ok' : Nat → Prop} {xs : List V} {v : Value} (h : ValsIn w ok xs v) (hk : ∀ k, ok k → ok' k) : ValsIn w ok' xs v := In.weak h hk
theorem ValsIn.grown {w w' : World} {ok : Nat → Prop} {g : Nat} {xs : List V} {v : Value} (h : ValsIn w ok xs v) (hg : w.grownBy w' (some g)) (hr : ∀ k, ok k → k ≠ g) : ValsIn w' ok xs v := In.grown h hg hr
theorem ValsIn.form {w : World} {ok : Nat → Prop} {xs : List V} {v : Value} (h : ValsIn w ok xs v) : ∃ a c, v = .slice a xs.length c := by
  obtain ⟨a7, a8, c7, c8, e⟩ := In.form h
  simp only [Value.agg.injEq, Array.mk.injEq, List.cons.injEq, and_true] at e
  exact ⟨a8, c8, e.2.2.2.2⟩
theorem ValsIn.len {w : World} {ok : Nat → Prop} {xs : List V} {v : Value} (h : ValsIn w ok xs v) : xs.length ≤ 9223372036854775807 := (In.lens h).2.1
theorem In.vals {w : World} {ok : Nat → Prop} {t : V} {k n s ks ls : Value} (h : In w ok t (.agg #[k, n, s, ks, ls])) : ValsIn w ok t.l ls := by
  obtain ⟨d, h⟩ := h.at
  obtain ⟨ks', ls', e, -, -, -, -, h5⟩ := h
  simp only [Value.agg.injEq, Array.mk.injEq, List.cons.injEq, and_true] at e
  obtain ⟨-, -, -, -, rfl⟩ := e
  exact ⟨d + 1, _, _, rfl, by unfold I64; simp, by unfold I64; simp, by simp [maxLen], ⟨by simp [maxLen], .inl ⟨rfl, none, rfl⟩⟩, h5⟩
theorem ValsIn.item {w : World} {ok : Nat → Prop} {xs : List V} {a : Option Addr} {m c i : Nat} (h : ValsIn w ok xs (.slice a m c)) (hi : i < xs.length) :
    ∃ b off a5 c5 a6 c6, a = some ⟨b, off, none⟩ ∧ xs.length ≤ c ∧ c ≤ 9223372036854775807 ∧ w.cell? ⟨b, off + i * 5, none⟩ = some (.int .i64 xs[i].kind) ∧ w.cell? ⟨b, off + i * 5 + 1, none⟩ = some (.int .i64 xs[i].n) ∧ w.cell? ⟨b, off + i * 5 + 2, none⟩ = some (.string ⟨xs[i].s.toArray⟩) ∧
      w.cell? ⟨b, off + i * 5 + 3, none⟩ = some (.slice a5 xs[i].keys.length c5) ∧ w.cell? ⟨b, off + i * 5 + 4, none⟩ = some (.slice a6 xs[i].l.length c6) ∧ In w ok xs[i] (.agg #[.int .i64 xs[i].kind, .int .i64 xs[i].n, .string ⟨xs[i].s.toArray⟩, .slice a5 xs[i].keys.length c5, .slice a6 xs[i].l.length c6]) :=
  In.item h hi
theorem ValsIn.blk {w : World} {ok : Nat → Prop} {xs : List V} {b off m c i : Nat} (h : ValsIn w ok xs (.slice (some ⟨b, off, none⟩) m c)) (hi : i < xs.length) : ok b := by
  obtain ⟨d, h⟩ := In.at h
  obtain ⟨ks', ls, e, -, -, -, -, h5⟩ := h
  simp only [Value.agg.injEq, Array.mk.injEq, List.cons.injEq, and_true] at e
  obtain ⟨-, -, -, -, rfl⟩ := e
  obtain ⟨-, h5⟩ := h5
  rcases h5 with ⟨e, _⟩ | ⟨b', off', c', e, h1, h2, hcs⟩
  · simp only at e; rw [e] at hi; simp at hi
  · simp only [Value.slice.injEq, Option.some.injEq, Addr.mk.injEq] at e
    obtain ⟨⟨rfl, -, -⟩, -, -⟩ := e
    obtain ⟨_, _, _, _, _, g, _⟩ := hcs i xs[i] (List.getElem?_eq_getElem hi)
    exact g
/- A list of one, in a block of its own. -/
theorem vals_one {w : World} {ok : Nat → Prop} {t : V} {g : Nat} {c0 c1 c2 c3 c4 : Value} (h : In w ok t (.agg #[c0, c1, c2, c3, c4])) (hb : BoxIs w g c0 c1 c2 c3 c4) (hok : ok g) : ValsIn w ok [t] (.slice (some ⟨g, 0, none⟩) 1 1) := by
  obtain ⟨d, h⟩ := h
  obtain ⟨b0, b1, b2, b3, b4, -⟩ := hb.c
  refine ⟨d + 1, _, _, rfl, by unfold I64; simp, by unfold I64; simp, by simp [maxLen], ⟨by simp [maxLen], .inl ⟨rfl, none, rfl⟩⟩, by simp [maxLen], .inr ⟨g, 0, 1, rfl, by simp, by simp [maxLen], ?_⟩⟩
  intro i x hx
  cases i with
  | zero =>
    simp only [List.getElem?_cons_zero, Option.some.injEq] at hx
    subst hx
    exact ⟨c0, c1, c2, c3, c4, hok, by simpa using b0, by simpa using b1, by simpa using b2, by simpa using b3, by simpa using b4, h⟩
  | succ i => simp at hx
end Go.Proofs.YtaifciobaapehaaDoor

/- Depth, number and form of values, as the reference tells them; what is good. -/
set_option linter.unusedSimpArgs false
set_option linter.unusedVariables false
namespace Go.Proofs.YtaifciobaapehaaDoor
open Go.RowKit

/- The greatest of a list. -/
def top (l : List Nat) : Nat := l.foldr max 0
def dpt : V → Nat
  | ⟨_, _, _, _, l⟩ => top (l.map dpt) + 1
def dpts (xs : List V) : Nat := top (xs.map dpt)
theorem dpts_nil : dpts [] = 0 := rfl
theorem dpts_cons (x : V) (xs : List V) : dpts (x :: xs) = max (dpt x) (dpts xs) := by simp [dpts, top]
def shp : V → Bool
  | ⟨k, n, s, ks, l⟩ => shapedB ⟨k, n, s, ks, l⟩ && (l.map shp).all id
def shps (xs : List V) : Bool := (xs.map shp).all id
theorem shps_nil : shps [] = true := rfl
theorem shps_cons (x : V) (xs : List V) : shps (x :: xs) = (shp x && shps xs) := by simp [shps]
theorem dpt_eq (t : V) : dpt t = dpts t.l + 1 := by cases t; rw [dpt]; rfl
theorem shp_eq (t : V) : shp t = (shapedB t && shps t.l) := by cases t; rw [shp]; rfl
theorem dpts_snoc (x : V) : ∀ (xs : List V), dpts (xs ++ [x]) = max (dpts xs) (dpt x)
  | [] => by simp [dpts_nil, dpts_cons]
  | y :: xs => by rw [List.cons_append, dpts_cons, dpts_cons, dpts_snoc x xs]; omega
theorem cnts_snoc (x : V) : ∀ (xs : List V), cnts (xs ++ [x]) = cnts xs + cnt x
  | [] => by simp [cnts_nil, cnts_cons]
  | y :: xs => by rw [List.cons_append, cnts_cons, cnts_cons, cnts_snoc x xs]; omega
theorem shps_snoc (x : V) : ∀ (xs : List V), shps (xs ++ [x]) = (shps xs && shp x)
  | [] => by simp [shps_nil, shps_cons]
  | y :: xs => by rw [List.cons_append, shps_cons, shps_cons, shps_snoc x xs, Bool.and_assoc]
theorem take_snocV {xs : List V} {k : Nat} (h : k < xs.length) : xs.take (k + 1) = xs.take k ++ [xs[k]] := List.take_succ_eq_append_getElem h
theorem cnts_take {xs : List V} (k : Nat) : cnts (xs.take k) ≤ cnts xs := by
  induction xs generalizing k with
  | nil => simp [cnts_nil]
  | cons x xs ih =>
    cases k with
    | zero => simp [cnts_nil]
    | succ k => rw [List.take_succ_cons, cnts_cons, cnts_cons]; have := ih k; omega
theorem dpts_mem {xs : List V} {x : V} (h : x ∈ xs) : dpt x ≤ dpts xs := by
  induction xs with
  | nil => cases h
  | cons y xs ih =>
    rw [dpts_cons]
    rcases List.mem_cons.1 h with rfl | h
    · omega
    · have := ih h; omega
theorem dpts_le {xs : List V} {D : Nat} (h : ∀ x ∈ xs, dpt x ≤ D) : dpts xs ≤ D := by
  induction xs with
  | nil => simp [dpts_nil]
  | cons y xs ih =>
    rw [dpts_cons]
    have h1 := h y (by simp)
    have h2 := ih fun x hx => h x (by simp [hx])
    omega
theorem shps_iff {xs : List V} : shps xs = true ↔ ∀ x ∈ xs, shp x = true := by
  induction xs with
  | nil => simp [shps_nil]
  | cons y xs ih => rw [shps_cons, Bool.and_eq_true, ih]; simp
theorem dpts_cnt_of : ∀ (l : List V), (∀ x ∈ l, dpt x ≤ cnt x) → dpts l ≤ cnts l
  | [], _ => by simp [dpts_nil, cnts_nil]
  | x :: l, h => by
    rw [dpts_cons, cnts_cons]
    have h1 := h x (by simp)
    have h2 := dpts_cnt_of l fun y hy => h y (by simp [hy])
    omega
theorem dpt_cnt : ∀ (t : V), dpt t ≤ cnt t
  | ⟨k, n, s, ks, l⟩ => by
    rw [dpt_eq, cnt_eq]
    have h : ∀ x ∈ l, dpt x ≤ cnt x := fun x hx => dpt_cnt x
    have := dpts_cnt_of l h
    simp only
    omega
theorem dpts_cnt (l : List V) : dpts l ≤ cnts l := dpts_cnt_of l fun x _ => dpt_cnt x
theorem goodT_iff (D : Nat) : ∀ (t : V), GoodT D t ↔ shp t = true ∧ dpt t ≤ D := by
  induction D with
  | zero => intro t; rw [dpt_eq]; simp [GoodT]
  | succ D ih =>
    intro t
    rw [shp_eq, dpt_eq, Bool.and_eq_true, shps_iff]
    constructor
    · rintro ⟨h1, h2⟩
      refine ⟨⟨h1, fun x hx => ((ih x).1 (h2 x hx)).1⟩, ?_⟩
      have := dpts_le (D := D) fun x hx => ((ih x).1 (h2 x hx)).2
      omega
    · rintro ⟨⟨h1, h2⟩, h3⟩
      exact ⟨h1, fun x hx => (ih x).2 ⟨h2 x hx, by have := dpts_mem hx; omega⟩⟩
/- What GoodValue answers is what Good answers. -/
theorem good_ref (t : V) : (decide (dpt t ≤ 12) && decide (cnt t ≤ 120) && shp t) = goodV t := by
  rw [Bool.eq_iff_iff, good_iff, goodT_iff]
  simp only [Bool.and_eq_true, decide_eq_true_eq]
  constructor
  · rintro ⟨⟨h1, h2⟩, h3⟩
    exact ⟨⟨h3, h1⟩, by rw [← cnt_sz 12 t ((goodT_iff 12 t).2 ⟨h3, h1⟩)]; exact h2⟩
  · rintro ⟨⟨h3, h1⟩, h2⟩
    exact ⟨⟨h1, by rw [cnt_sz 12 t ((goodT_iff 12 t).2 ⟨h3, h1⟩)]; exact h2⟩, h3⟩
end Go.Proofs.YtaifciobaapehaaDoor

/- A list of texts, copied: append onto nil. -/
set_option linter.unusedSimpArgs false
set_option linter.unusedVariables false
namespace Go.Proofs.YtaifciobaapehaaDoor
open Go.RowKit

theorem run_nil_nil (W : World) (ty : TypeId) : (Builtin.append_ #[22, 22] ty #[.slice none 0 0, .slice none 0 0]).run Tryd.prog W = .ok (.slice none 0 0) W := by
  obtain ⟨i0, hi, hz0, hz1, hz2⟩ := info_parts info9
  simp [Builtin.append_, run_underlying Tryd.underlying22, hi, go_sem]
theorem run_copyS (W : World) (ok : Nat → Prop) (xs : List (List UInt8)) (v : Value) (h : StrsAre W ok xs v) (hl : xs.length ≤ 8000000000000) (ty : TypeId) :
    ∃ v' W', (Builtin.append_ #[22, 22] ty #[.slice none 0 0, v]).run Tryd.prog W = .ok v' W' ∧ StrsAre W' (fun k => W.heap.size ≤ k) xs v' ∧ Below W.heap.size W W' := by
  obtain ⟨i0, hi, hz0, hz1, hz2⟩ := info_parts info9
  have hm := h.1
  have some_case : ∀ (ad : Addr) (c : Nat), (∀ j u, (xs.map str)[j]? = some u → W.cell? (ad.add j) = some u) → (∀ x ∈ xs, x.length ≤ maxLen) →
      ∃ v' W', (Builtin.append_ #[22, 22] ty #[.slice none 0 0, .slice (some ad) xs.length c]).run Tryd.prog W = .ok v' W' ∧ StrsAre W' (fun k => W.heap.size ≤ k) xs v' ∧ Below W.heap.size W W' := by
    intro ad c hc hx
    obtain ⟨v', W', hr, ho, hg, -, -⟩ := run_append_own_at (P := Tryd.prog) W W.heap.size 22 ty 9 i0 _ 1 16 Tryd.underlying22 hi hz0 hz1 hz2 rfl (by decide) (.slice none 0 0) 0 [] (World.ownsRow_nil _ _ _ _) ad xs.length c (xs.map str) (by simp) hc (by intro u hu; simp only [List.mem_map] at hu; obtain ⟨x, -, rfl⟩ := hu; rfl) (by omega) (by omega) (Nat.le_refl _)
    refine ⟨v', W', hr, own_strs (n := xs.length) rfl (by simpa using ho) hx (fun _ h => h) hm, ?_⟩
    exact gb_none (by simpa [Value.ownBlock] using hg)
  rcases h.2 with ⟨rfl, a, rfl⟩ | ⟨b, off, c, rfl, h1, h2, h3⟩
  · cases a with
    | none => exact ⟨_, _, run_nil_nil W ty, ⟨by simp, .inl ⟨rfl, none, rfl⟩⟩, Below.refl _ _⟩
    | some ad => exact some_case ad 0 (by simp) (by simp)
  · refine some_case ⟨b, off, none⟩ c ?_ ?_
    · intro j u hj
      rw [addr_add]
      simp only [List.getElem?_map, Option.map_eq_some_iff] at hj
      obtain ⟨x, hx, rfl⟩ := hj
      exact (h3 j x hx).2.2
    · intro x hx
      obtain ⟨i, hi⟩ := List.getElem?_of_mem hx
      exact (h3 i x hi).1
end Go.Proofs.YtaifciobaapehaaDoor

/- What CopyValue of package stairwellref does. -/
set_option linter.unusedSimpArgs false
set_option linter.unusedVariables false
namespace Go.Proofs.YtaifciobaapehaaDoor
open Go.RowKit
attribute [local go_sem ↓] Go.wp_at_zero Go.wp_at_succ

/- How much there is in a value: itself, its keys, its items. -/
def siz : V → Nat
  | ⟨_, _, _, ks, l⟩ => 1 + ks.length + (l.map siz).sum
def sizs (xs : List V) : Nat := (xs.map siz).sum
theorem sizs_cons (x : V) (xs : List V) : sizs (x :: xs) = siz x + sizs xs := by simp [sizs]
theorem siz_eq (t : V) : siz t = 1 + t.keys.length + sizs t.l := by cases t; rw [siz]; rfl
theorem sizs_mem {xs : List V} {x : V} (h : x ∈ xs) : siz x ≤ sizs xs := by
  induction xs with
  | nil => cases h
  | cons y xs ih =>
    rw [sizs_cons]
    rcases List.mem_cons.1 h with rfl | h
    · omega
    · have := ih h; omega
theorem sizs_len : ∀ (xs : List V), xs.length ≤ sizs xs
  | [] => Nat.le_refl _
  | x :: xs => by
    have := sizs_len xs
    have := siz_eq x
    rw [sizs_cons, List.length_cons]; omega
theorem cnts_sizs_of : ∀ (l : List V), (∀ x ∈ l, cnt x ≤ siz x) → cnts l ≤ sizs l
  | [], _ => by simp [cnts, sizs]
  | x :: l, h => by
    rw [cnts_cons, sizs_cons]
    have h1 := h x (by simp)
    have h2 := cnts_sizs_of l fun y hy => h y (by simp [hy])
    omega
theorem cnt_siz : ∀ (t : V), cnt t ≤ siz t
  | ⟨k, n, s, ks, l⟩ => by
    rw [cnt_eq, siz_eq]
    have h : ∀ x ∈ l, cnt x ≤ siz x := fun x hx => cnt_siz x
    have := cnts_sizs_of l h
    simp only
    omega
theorem box_sL {w : World} {g : Nat} {c0 c1 c2 c3 c4 : Value} (h : BoxIs w g c0 c1 c2 c3 c4) (v : Value) : BoxIs (w.setCell ⟨g, 4, none⟩ v) g c0 c1 c2 c3 v := heap_set h 4 v
theorem box_sK {w : World} {g : Nat} {c0 c1 c2 c3 c4 : Value} (h : BoxIs w g c0 c1 c2 c3 c4) (v : Value) : BoxIs (w.setCell ⟨g, 3, none⟩ v) g c0 c1 c2 v c4 := heap_set h 3 v
theorem step_V {w : World} {ops : Array Oper} {o : Oper} {a : Act} {K : Act → World → Prop} {Q : Exit → Act → World → Prop} {E : Prop} (hgd : o.guard = none) (s x : Operand)
    (ho : o.op = .call { callee := .builtin .append, args := #[s, x], argTypes := #[23, 23] }) (B : Nat) (v : Value) (n : Nat) (cs : List Value) (k m : Int) (ss : ByteArray) (a7 a8 : Option Addr) (l7 c7 l8 c8 : Nat) (hs : a.eval s = v)
    (hx : a.eval x = .slice (some ⟨w.heap.size, 0, none⟩) 1 1) (hown : w.ownsRow B 25 5 v n cs) (hB : B ≤ w.heap.size) (hl : n ≤ 1700000000000)
    (hK : ∀ g cap w', w'.ownsRow B 25 5 (.slice (some ⟨g, 0, none⟩) (n + 1) cap) (n + 1) (cs ++ [.int .i64 k, .int .i64 m, .string ss, .slice a7 l7 c7, .slice a8 l8 c8]) → (w.alloc (.cells #[.int .i64 k, .int .i64 m, .string ss, .slice a7 l7 c7, .slice a8 l8 c8] 25)).grownBy w' v.ownBlock → (v.ownBlock = some g ∨ w.heap.size < g) → K (a.put o.dst (.slice (some ⟨g, 0, none⟩) (n + 1) cap)) w') :
    if Region.wanted o (yielded ops a.tmps) = true then Oper.wp Tryd.prog o a (w.alloc (.cells #[.int .i64 k, .int .i64 m, .string ss, .slice a7 l7 c7, .slice a8 l8 c8] 25)) K Q else E := by
  obtain ⟨i0, hi, hz0, hz1, hz2⟩ := info_parts info25
  have hb : BoxIs (w.alloc (.cells #[.int .i64 k, .int .i64 m, .string ss, .slice a7 l7 c7, .slice a8 l8 c8] 25)) w.heap.size (.int .i64 k) (.int .i64 m) (.string ss) (.slice a7 l7 c7) (.slice a8 l8 c8) := heap_alloc_new w _
  refine step_append_lies _ hgd s x 23 ho B 25 i0 _ 5 80 Tryd.underlying23 hi hz0 hz1 hz2 rfl (by decide) v n cs hs (hown.alloc _) ⟨w.heap.size, 0, none⟩ 1 1 [.int .i64 k, .int .i64 m, .string ss, .slice a7 l7 c7, .slice a8 l8 c8] hx rfl (World.news_of_block (cs := #[.int .i64 k, .int .i64 m, .string ss, .slice a7 l7 c7, .slice a8 l8 c8]) hb) (one5 _ _ _ _ _ _ _ _ _) (by decide) (by unfold maxLen; omega) (by omega) (by simp; omega) (w.heap.size + 1) (by simp) ?_
  intro g cap w' ho' hg' hor _
  exact hK g cap w' ho' hg' (hor.imp id fun e => by omega)
/- On the way. -/
def CpI (w : World) (d : Nat) (t : V) (k : Nat) (wr : World) : Prop :=
  ∃ (ka la : Option Addr) (kc lc g0 : Nat) (cs : List Value), BoxIs wr w.heap.size (.int .i64 t.kind) (.int .i64 t.n) (.string ⟨t.s.toArray⟩) (.slice ka t.keys.length kc) (.slice la k lc) ∧ BoxIs wr (w.heap.size + 1) (.int .i64 0) (.int .i64 0) (.string ⟨#[]⟩) (.slice none 0 0) (.slice none 0 0) ∧ wr.ownsRow (w.heap.size + 2) 25 5 (.slice la k lc) k cs ∧ (((.slice la k lc : Value).ownBlock = none ∧ g0 ≤ wr.heap.size) ∨ (.slice la k lc : Value).ownBlock = some g0) ∧ RowV (VIs wr (fun j => w.heap.size + 2 ≤ j ∧ j ≠ g0) d) (t.l.take k) cs ∧ StrsAre wr (fun j => w.heap.size + 2 ≤ j ∧ j ≠ g0) t.keys (.slice ka t.keys.length kc) ∧ Below w.heap.size w wr
theorem StrsAre.bel2 {w w' : World} {ok ok' : Nat → Prop} {r : Option Nat} {xs : List (List UInt8)} {v : Value} (h : StrsAre w ok xs v) (hg : w.grownBy w' r) (hr : ∀ k, ok k → some k ≠ r) (hk : ∀ k, ok k → k < w.heap.size → ok' k) : StrsAre w' ok' xs v :=
  h.imp fun a x h1 h2 => ⟨hk _ h1 (World.block_lt_of_cell? w a h2), hg.cell h2 (hr _ h1)⟩
/- One more is copied. -/
theorem cp_mk {w w3 w4 : World} {d : Nat} {t y : V} {k : Nat} {ka la a7 a8 : Option Addr} {kc lc g0 c7 c8 g cap : Nat} {cs : List Value} (hk : k < t.l.length) (hy : y = t.l[k])
    (bx : BoxIs w3 w.heap.size (.int .i64 t.kind) (.int .i64 t.n) (.string ⟨t.s.toArray⟩) (.slice ka t.keys.length kc) (.slice la k lc)) (bz : BoxIs w3 (w.heap.size + 1) (.int .i64 0) (.int .i64 0) (.string ⟨#[]⟩) (.slice none 0 0) (.slice none 0 0)) (ho : w3.ownsRow (w.heap.size + 2) 25 5 (.slice la k lc) k cs) (hlv : (.slice la k lc : Value).ownBlock = none ∨ (.slice la k lc : Value).ownBlock = some g0)
    (hrow : RowV (VIs w3 (fun j => w.heap.size + 2 ≤ j ∧ j ≠ g0) d) (t.l.take k) cs) (hks : StrsAre w3 (fun j => w.heap.size + 2 ≤ j ∧ j ≠ g0) t.keys (.slice ka t.keys.length kc)) (hb : Below w.heap.size w w3)
    (hv : VIs w3 (fun j => w.heap.size + 2 ≤ j ∧ j ≠ g0) d y (.agg #[.int .i64 y.kind, .int .i64 y.n, .string ⟨y.s.toArray⟩, .slice a7 y.keys.length c7, .slice a8 y.l.length c8]))
    (ho4 : w4.ownsRow (w.heap.size + 2) 25 5 (.slice (some ⟨g, 0, none⟩) (k + 1) cap) (k + 1) (cs ++ [.int .i64 y.kind, .int .i64 y.n, .string ⟨y.s.toArray⟩, .slice a7 y.keys.length c7, .slice a8 y.l.length c8]))
    (hg4 : (w3.alloc (.cells #[.int .i64 y.kind, .int .i64 y.n, .string ⟨y.s.toArray⟩, .slice a7 y.keys.length c7, .slice a8 y.l.length c8] 25)).grownBy w4 (.slice la k lc : Value).ownBlock) (hgg : (.slice la k lc : Value).ownBlock = some g ∨ w3.heap.size < g) :
    CpI w d t (k + 1) (w4.setCell ⟨w.heap.size, 4, none⟩ (.slice (some ⟨g, 0, none⟩) (k + 1) cap)) := by
  have hlow : ∀ j, (.slice la k lc : Value).ownBlock = some j → w.heap.size + 2 ≤ j := fun j hj => (ho.lt j hj).1
  have g34 : w3.grownBy w4 (.slice la k lc : Value).ownBlock := gb_trans (World.grownBy_alloc w3 _ _) hg4
  have g5 : w4.grownBy (w4.setCell ⟨w.heap.size, 4, none⟩ (.slice (some ⟨g, 0, none⟩) (k + 1) cap)) (some w.heap.size) := gb_set (gb_refl _ _) _ _
  have ne : ∀ j, j < w.heap.size + 2 → some j ≠ (.slice la k lc : Value).ownBlock := fun j hj e => by have := hlow j e.symm; omega
  have neR : ∀ j, (fun j => w.heap.size + 2 ≤ j ∧ j ≠ g0) j → some j ≠ (.slice la k lc : Value).ownBlock := by
    intro j hj e
    rcases hlv with h0 | h0 <;> rw [h0] at e <;> simp at e
    exact hj.2 e
  have up : ∀ j, (fun j => w.heap.size + 2 ≤ j ∧ j ≠ g0) j → j < w3.heap.size → w.heap.size + 2 ≤ j ∧ j ≠ g := by
    intro j hj hlt
    refine ⟨hj.1, fun e => ?_⟩
    subst e
    rcases hgg with h0 | h0
    · rcases hlv with h2 | h2
      · rw [h2] at h0; cases h0
      · rw [h2] at h0; cases h0; exact hj.2 rfl
    · omega
  have conv : ∀ x v, VIs w3 (fun j => w.heap.size + 2 ≤ j ∧ j ≠ g0) d x v → VIs (w4.setCell ⟨w.heap.size, 4, none⟩ (.slice (some ⟨g, 0, none⟩) (k + 1) cap)) (fun j => w.heap.size + 2 ≤ j ∧ j ≠ g) d x v := by
    intro x v h
    have h1 := (h.below.grown g34 (fun j hj => neR j hj.1)).grown g5 (fun j hj e => by have := hj.1.1; simp at e; omega)
    exact h1.weak fun j hj => up j hj.1 hj.2
  refine ⟨ka, some ⟨g, 0, none⟩, kc, cap, g, _, box_sL (bx.grown g34 (ne _ (by omega))) _, (bz.grown g34 (ne _ (by omega))).grown g5 (by simp), own_kept' ho4 g5 (by omega), .inr rfl, ?_, ?_, ?_⟩
  · have rx : RowV (VIs (w4.setCell ⟨w.heap.size, 4, none⟩ (.slice (some ⟨g, 0, none⟩) (k + 1) cap)) (fun j => w.heap.size + 2 ≤ j ∧ j ≠ g) d) [y] [.int .i64 y.kind, .int .i64 y.n, .string ⟨y.s.toArray⟩, .slice a7 y.keys.length c7, .slice a8 y.l.length c8] := ⟨_, _, _, _, _, [], rfl, conv _ _ hv, rfl⟩
    rw [take_snocV hk, ← hy]
    exact rx.append (hrow.imp conv)
  · exact (hks.bel2 (ok' := fun j => w.heap.size + 2 ≤ j ∧ j ≠ g) g34 neR up).bel2 g5 (fun j hj e => by have := hj.1; simp at e; omega) (fun j hj _ => hj)
  · refine gb_none (gb_out (g := w.heap.size) ?_ g5 (Nat.le_refl _))
    have hbw : w.grownBy w3 none := gb_below hb
    exact ⟨g34.os.trans hb.os, g34.tape.trans hb.tape, g34.output.trans hb.output, Nat.le_trans hb.size g34.size, fun j hj _ => (g34.block j (Nat.lt_of_lt_of_le hj hb.size) (ne j (by omega))).trans (hb.block j hj)⟩

theorem fresh_ne {wr w3 : World} {B d k g0 : Nat} {la : Option Addr} {lc : Nat} {cs : List Value} {y : V} {yv : Value} (h : VIs w3 (fun j => wr.heap.size + 1 ≤ j) d y yv) (ho : wr.ownsRow (B + 2) 25 5 (.slice la k lc) k cs) (hlv : ((.slice la k lc : Value).ownBlock = none ∧ g0 ≤ wr.heap.size) ∨ (.slice la k lc : Value).ownBlock = some g0) (hB : B + 1 < wr.heap.size) : VIs w3 (fun j => B + 2 ≤ j ∧ j ≠ g0) d y yv := by
  refine h.weak fun j hj => ⟨by omega, fun e => ?_⟩
  subst e
  rcases hlv with h0 | h0
  · omega
  · have := (ho.lt _ h0).2; omega
def CpC (d : Nat) : Prop := ∀ (w : World) (ok : Nat → Prop) (t : V) (v : Value), VIs w ok d t v → siz t ≤ 1000000000000 →
    Calls Tryd.prog 6 #[v] w fun e w' => ∃ r, e = .returned r ∧ Below w.heap.size w w' ∧ VIs w' (fun k => w.heap.size ≤ k) d t r

set_option maxRecDepth 100000 in
set_option maxHeartbeats 40000000 in
theorem copyValue_succ (d : Nat) (ih : CpC d) : CpC (d + 1) := by
  intro w ok t v h hN
  have IH := hidI ih
  obtain ⟨a1, a2, c1, c2, rfl⟩ := h.shape
  have VV : Hid (ValsAre w ok (VIs w ok d) t.l (.slice a2 t.l.length c2) ∧ StrsAre w ok t.keys (.slice a1 t.keys.length c1) ∧ t.s.length ≤ maxLen ∧ I64 t.kind ∧ I64 t.n) := hidI (by
    obtain ⟨ks, ls, e, h1, h2, h3, h4, h5⟩ := h
    simp only [Value.agg.injEq, Array.mk.injEq, List.cons.injEq, and_true] at e
    obtain ⟨-, -, -, rfl, rfl⟩ := e
    exact ⟨h5, h4, h3, h1, h2⟩)
  have ll : t.l.length ≤ 9223372036854775807 := VV.out.1.1
  have lk : t.keys.length ≤ 9223372036854775807 := VV.out.2.1.1
  have z0 := siz_eq t
  have z1 := sizs_len t.l
  have zk : t.keys.length ≤ 8000000000000 := by omega
  have zl : t.l.length ≤ 1700000000000 := by omega
  have ZS : Hid (sizs t.l ≤ 1000000000000) := hidI (by omega)
  have B2 : Hid (∀ o1 o2, Below w.heap.size w ((w.alloc o1).alloc o2)) := fun o1 o2 => bel_trans (bel_alloc _ _) (bel_alloc _ _)
  obtain ⟨kv, w5, hR, hks, hb5⟩ := run_copyS ((w.alloc (.cells #[.int .i64 t.kind, .int .i64 t.n, .string ⟨t.s.toArray⟩, .slice a1 t.keys.length c1, .slice a2 t.l.length c2] 25)).alloc (.cells #[.int .i64 0, .int .i64 0, .string ⟨#[]⟩, .slice none 0 0, .slice none 0 0] 25)) ok t.keys _ (VV.out.2.1.bel (B2.out _ _)) zk 22
  have HR := hidI hR
  obtain ⟨ka, kc, rfl⟩ := hks.form
  have hsz : ((w.alloc (.cells #[.int .i64 t.kind, .int .i64 t.n, .string ⟨t.s.toArray⟩, .slice a1 t.keys.length c1, .slice a2 t.l.length c2] 25)).alloc (.cells #[.int .i64 0, .int .i64 0, .string ⟨#[]⟩, .slice none 0 0, .slice none 0 0] 25)).heap.size = w.heap.size + 2 := by simp
  have K5 : Hid (BoxIs w5 w.heap.size (.int .i64 t.kind) (.int .i64 t.n) (.string ⟨t.s.toArray⟩) (.slice a1 t.keys.length c1) (.slice a2 t.l.length c2) ∧ BoxIs w5 (w.heap.size + 1) (.int .i64 0) (.int .i64 0) (.string ⟨#[]⟩) (.slice none 0 0) (.slice none 0 0) ∧ Below w.heap.size w w5 ∧ StrsAre w5 (fun j => w.heap.size + 2 ≤ j) t.keys (.slice ka t.keys.length kc)) := hidI ⟨box_bel hb5 (h2a w _ _), box_bel hb5 (h2b w _ _), bel_trans (B2.out _ _) hb5, by rw [hsz] at hks; exact hks⟩
  clear h ih hN z0 z1 hR hks hb5 hsz
  have I0 : Hid (CpI w d t 0 ((w5.setCell ⟨w.heap.size, 3, none⟩ (.slice ka t.keys.length kc)).setCell ⟨w.heap.size, 4, none⟩ (.slice none 0 0))) := by
    obtain ⟨k1, k2, k3, k4⟩ := K5.out
    have g1 : w5.grownBy ((w5.setCell ⟨w.heap.size, 3, none⟩ (.slice ka t.keys.length kc)).setCell ⟨w.heap.size, 4, none⟩ (.slice none 0 0)) (some w.heap.size) := gb_set (gb_set (gb_refl _ _) _ _) _ _
    refine hidI ⟨ka, none, kc, 0, w5.heap.size, [], box_sL (box_sK k1 _) _, k2.grown g1 (by simp), World.ownsRow_nil _ _ _ _, .inl ⟨rfl, g1.size⟩, rfl, ?_, gb_none (gb_out (gb_below k3) g1 (Nat.le_refl _))⟩
    exact k4.bel2 g1 (fun j hj e => by simp at e; omega) (fun j hj hlt => ⟨hj, by omega⟩)
  obtain ⟨y0, y1, y2, y3, y4, y5, y6, y7, y8, y9⟩ := K5.out.1.c
  go_enter Tryd.func6, Tryd.ntmps6
  go_wp2_with (at_builtin; go_must (refine Lib.wpList_append_run _ rfl _ _ _ _ rfl (.slice none 0 0) (.slice a1 t.keys.length c1) rfl rfl _ _ HR.out ?_); refine Hid.out ?_)
  refine hidI ?_
  go_wp2_with fail
  clear y0 y1 y2 y3 y4 y5 y6 y7 y8 y9 HR
  go_loopg [15] t.l.length (fun gk i wr => ∃ k : Nat, k ≤ t.l.length ∧ gk = t.l.length - k ∧ i = .int .i64 k ∧ CpI w d t k wr)
  case atStart => exact ⟨0, Nat.zero_le _, rfl, rfl, I0.out⟩
  case round =>
    obtain ⟨k, hk, hgk, rfl, ka, la, kc, lc, g0, cs, i1, i2, i3, i4, i5, i6, i7⟩ := hrel
    have GK := hidI hgk
    have I : Hid (BoxIs wr w.heap.size (.int .i64 t.kind) (.int .i64 t.n) (.string ⟨t.s.toArray⟩) (.slice ka t.keys.length kc) (.slice la k lc) ∧ BoxIs wr (w.heap.size + 1) (.int .i64 0) (.int .i64 0) (.string ⟨#[]⟩) (.slice none 0 0) (.slice none 0 0) ∧ wr.ownsRow (w.heap.size + 2) 25 5 (.slice la k lc) k cs ∧ (((.slice la k lc : Value).ownBlock = none ∧ g0 ≤ wr.heap.size) ∨ (.slice la k lc : Value).ownBlock = some g0) ∧ RowV (VIs wr (fun j => w.heap.size + 2 ≤ j ∧ j ≠ g0) d) (t.l.take k) cs ∧ StrsAre wr (fun j => w.heap.size + 2 ≤ j ∧ j ≠ g0) t.keys (.slice ka t.keys.length kc) ∧ Below w.heap.size w wr) := hidI ⟨i1, i2, i3, i4, i5, i6, i7⟩
    clear hgk i1 i2 i3 i4 i5 i6 i7
    by_cases hlt : k < t.l.length
    · obtain ⟨b, off, rfl, z1, z2, a5, c5, a6, c6, p0, p1, p2, p3, p4, p5⟩ := vals_at VV.out.1 hlt
      unfold maxLen at z2
      replace p0 := cell_bel I.out.2.2.2.2.2.2 p0
      replace p1 := cell_bel I.out.2.2.2.2.2.2 p1
      replace p2 := cell_bel I.out.2.2.2.2.2.2 p2
      replace p3 := cell_bel I.out.2.2.2.2.2.2 p3
      replace p4 := cell_bel I.out.2.2.2.2.2.2 p4
      have P5 := hidI (p5.bel I.out.2.2.2.2.2.2)
      have w1 : (0 : Int) ≤ (k : Int) := by omega
      have w2 : (k : Int) < (t.l.length : Int) := by omega
      have zx : Hid (siz t.l[k] ≤ 1000000000000) := hidI (by have := sizs_mem (List.getElem_mem hlt); have := ZS.out; omega)
      have call : Hid (∀ W, W.heap = (wr.alloc (.cells #[.int .i64 t.l[k].kind, .int .i64 t.l[k].n, .string ⟨t.l[k].s.toArray⟩, .slice a5 t.l[k].keys.length c5, .slice a6 t.l[k].l.length c6] 25)).heap → W.os = wr.os → W.tape = wr.tape → W.output = wr.output → Calls Tryd.prog 6 #[.agg #[.int .i64 t.l[k].kind, .int .i64 t.l[k].n, .string ⟨t.l[k].s.toArray⟩, .slice a5 t.l[k].keys.length c5, .slice a6 t.l[k].l.length c6]] W fun e w3 => ∃ (a7 a8 : Option Addr) (c7 c8 : Nat), e = .returned (.agg #[.int .i64 t.l[k].kind, .int .i64 t.l[k].n, .string ⟨t.l[k].s.toArray⟩, .slice a7 t.l[k].keys.length c7, .slice a8 t.l[k].l.length c8]) ∧ VIs w3 (fun j => wr.heap.size + 1 ≤ j) d t.l[k] (.agg #[.int .i64 t.l[k].kind, .int .i64 t.l[k].n, .string ⟨t.l[k].s.toArray⟩, .slice a7 t.l[k].keys.length c7, .slice a8 t.l[k].l.length c8]) ∧ Below wr.heap.size wr w3) := by
        intro W e1 e2 e3 e4
        have hbW : Below wr.heap.size wr W := by
          have := bel_alloc wr (.cells #[.int .i64 t.l[k].kind, .int .i64 t.l[k].n, .string ⟨t.l[k].s.toArray⟩, .slice a5 t.l[k].keys.length c5, .slice a6 t.l[k].l.length c6] 25)
          exact ⟨e2, e3, e4, by rw [e1]; exact this.size, fun k hk => by rw [e1]; exact this.block k hk⟩
        have hsz : W.heap.size = wr.heap.size + 1 := by rw [e1]; simp
        refine (IH.out W ok t.l[k] _ (P5.out.bel hbW) zx.out).mono ?_
        rintro e w3 ⟨r, rfl, hb, hr⟩
        obtain ⟨a7, a8, c7, c8, rfl⟩ := hr.shape
        rw [hsz] at hr
        exact ⟨a7, a8, c7, c8, rfl, hr, bel_trans hbW hb⟩
      have q4 := (box_bel (bel_alloc wr (.cells #[.int .i64 t.l[k].kind, .int .i64 t.l[k].n, .string ⟨t.l[k].s.toArray⟩, .slice a5 t.l[k].keys.length c5, .slice a6 t.l[k].l.length c6] 25)) I.out.1).c.2.2.2.2.1
      have hnl : k ≤ 1700000000000 := by omega
      clear p5
      go_wp2_with fail
      go_region_law ((first | (refine step_V (by rfl) _ _ (by rfl) (w.heap.size + 2) (.slice la k lc) k cs t.l[k].kind t.l[k].n ⟨t.l[k].s.toArray⟩ a7 a8 t.l[k].keys.length c7 t.l[k].l.length c8 (by rfl) (by rfl) K3.out.2.2.1 hsz3 hnl ?_; intro g cap w4 ho4 hg4 hgg4; obtain ⟨x0, x1, x2, x3, x4, -, -, -, -, x9⟩ := ((K3.out.1.grown (World.grownBy_alloc _ _ none) (by simp)).grown hg4 (ne3.out _ (by omega))).c; have CM := hidI (cp_mk hlt rfl K3.out.1 K3.out.2.1 K3.out.2.2.1 (K3.out.2.2.2.1.imp And.left id) K3.out.2.2.2.2.1 K3.out.2.2.2.2.2.1 K3.out.2.2.2.2.2.2 V3.out ho4 hg4 hgg4); clear ho4 hg4 hgg4) | (go_simp; go_at_call 6; refine (call.out _ (by rfl) (by rfl) (by rfl) (by rfl)).mono ?_; rintro e w3 ⟨a7, a8, c7, c8, rfl, hv3, hb3⟩; have V3 : Hid (VIs w3 (fun j => w.heap.size + 2 ≤ j ∧ j ≠ g0) d t.l[k] (.agg #[.int .i64 t.l[k].kind, .int .i64 t.l[k].n, .string ⟨t.l[k].s.toArray⟩, .slice a7 t.l[k].keys.length c7, .slice a8 t.l[k].l.length c8])) := hidI (fresh_ne hv3 I.out.2.2.1 I.out.2.2.2.1 I.out.2.1.lt); have K3 : Hid (BoxIs w3 w.heap.size (.int .i64 t.kind) (.int .i64 t.n) (.string ⟨t.s.toArray⟩) (.slice ka t.keys.length kc) (.slice la k lc) ∧ BoxIs w3 (w.heap.size + 1) (.int .i64 0) (.int .i64 0) (.string ⟨#[]⟩) (.slice none 0 0) (.slice none 0 0) ∧ w3.ownsRow (w.heap.size + 2) 25 5 (.slice la k lc) k cs ∧ (((.slice la k lc : Value).ownBlock = none ∧ g0 ≤ wr.heap.size) ∨ (.slice la k lc : Value).ownBlock = some g0) ∧ RowV (VIs w3 (fun j => w.heap.size + 2 ≤ j ∧ j ≠ g0) d) (t.l.take k) cs ∧ StrsAre w3 (fun j => w.heap.size + 2 ≤ j ∧ j ≠ g0) t.keys (.slice ka t.keys.length kc) ∧ Below w.heap.size w w3) := hidI ⟨box_bel hb3 I.out.1, box_bel hb3 I.out.2.1, I.out.2.2.1.kept (gb_below (r := none) hb3) (by cases (.slice la k lc : Value).ownBlock <;> simp), I.out.2.2.2.1, I.out.2.2.2.2.1.imp fun _ _ h => h.bel hb3, I.out.2.2.2.2.2.1.bel hb3, bel_trans I.out.2.2.2.2.2.2 hb3⟩; have hsz3 : w.heap.size + 2 ≤ w3.heap.size := Nat.le_trans I.out.2.1.lt hb3.size; have ne3 : Hid (∀ j, j < w.heap.size + 2 → some j ≠ (.slice la k lc : Value).ownBlock) := hidI (fun j hj e => by have := (K3.out.2.2.1.lt j e.symm).1; omega); have r4 := K3.out.1.c.2.2.2.2.1; have r5 : ∀ o, (w3.alloc o).cell? ⟨w.heap.size, 4, none⟩ = some (.slice la k lc) := fun o => (box_bel (bel_alloc w3 o) K3.out.1).c.2.2.2.2.1; clear hv3 hb3)))
      all_goals
        go_wp2_with fail
        go_roundg (t.l.length - (k + 1))
        case measure => rw [GK.out]; omega
        case rel => exact ⟨k + 1, hlt, rfl, by go_num, CM.out⟩
    · have hke : k = t.l.length := by omega
      subst hke
      have d1 : ¬ (t.l.length : Int) < (t.l.length : Int) := by omega
      obtain ⟨y0, y1, y2, y3, y4, -⟩ := I.out.1.c
      obtain ⟨z0, z1, z2, z3, z4, z5, z6, z7, z8, z9⟩ := I.out.2.1.c
      have gs := set5_gb wr (w.heap.size + 1) (.int .i64 t.kind) (.int .i64 t.n) (.string ⟨t.s.toArray⟩) (.slice ka t.keys.length kc) (.slice la t.l.length lc)
      have ZB : Hid _ := hidI (I.out.2.1.set (.int .i64 t.kind) (.int .i64 t.n) (.string ⟨t.s.toArray⟩) (.slice ka t.keys.length kc) (.slice la t.l.length lc))
      have Z : Hid (Below w.heap.size w (set5 wr (w.heap.size + 1) (.int .i64 t.kind) (.int .i64 t.n) (.string ⟨t.s.toArray⟩) (.slice ka t.keys.length kc) (.slice la t.l.length lc)) ∧ VIs (set5 wr (w.heap.size + 1) (.int .i64 t.kind) (.int .i64 t.n) (.string ⟨t.s.toArray⟩) (.slice ka t.keys.length kc) (.slice la t.l.length lc)) (fun j => w.heap.size ≤ j) (d + 1) t (.agg #[.int .i64 t.kind, .int .i64 t.n, .string ⟨t.s.toArray⟩, .slice ka t.keys.length kc, .slice la t.l.length lc])) := by
        obtain ⟨k1, k2, k3, k4, k5, k6, k7⟩ := I.out
        refine hidI ⟨bel_set5 k7 (by omega) _ _ _ _ _, _, _, rfl, VV.out.2.2.2.1, VV.out.2.2.2.2, VV.out.2.2.1, ?_, ?_⟩
        · exact k6.bel2 gs (fun j hj e => by have := hj.1; simp at e; omega) (fun j hj _ => by have := hj.1; omega)
        · rw [List.take_of_length_le (Nat.le_refl _)] at k5
          exact own_vals rfl (own_kept' k3 gs (by omega)) (k5.imp fun x v h => (h.grown gs (fun j hj e => by have := hj.1; simp at e; omega)).weak fun j hj => by have := hj.1; omega) (fun j hj => by omega) ll
      clear gs
      go_wp2_with fail
      obtain ⟨q0, q1, q2, q3, q4, -⟩ := ZB.out.c
      refine bodyPost_ret (v := .agg #[.int .i64 t.kind, .int .i64 t.n, .string ⟨t.s.toArray⟩, .slice ka t.keys.length kc, .slice la t.l.length lc]) ?_ rfl ?_
      · simp only [set5] at q0 q1 q2 q3 q4
        simp [results, Tryd.results6, go_sem, q0, q1, q2, q3, q4]
      · exact ⟨_, rfl, Z.out.1, Z.out.2⟩
theorem copyValue_all (d : Nat) : CpC d := by
  induction d with
  | zero => exact fun _ _ _ _ h => h.elim
  | succ d ih => exact copyValue_succ d ih
end Go.Proofs.YtaifciobaapehaaDoor

/- Lists of values that wait, in a row of the call's own. -/
set_option linter.unusedSimpArgs false
set_option linter.unusedVariables false
namespace Go.Proofs.YtaifciobaapehaaDoor
open Go.RowKit

theorem own_belK {w w' : World} {B : Nat} {e : TypeId} {size : Nat} {v : Value} {n : Nat} {xs : List Value} (h : w.ownsRow B e size v n xs) (hb : Below w.heap.size w w') : w'.ownsRow B e size v n xs := h.kept (gb_below (r := none) hb) (by cases v.ownBlock <;> simp)
/- What waits: a list for each cell. -/
def StackIn (w : World) (ok : Nat → Prop) (ls : List (List V)) (cs : List Value) : Prop := cs.length = ls.length ∧ ∀ (j : Nat) (l : List V) (c : Value), ls[j]? = some l → cs[j]? = some c → ValsIn w ok l c
theorem StackIn.imp {w w' : World} {ok : Nat → Prop} {ls : List (List V)} {cs : List Value} (h : StackIn w ok ls cs) (hi : ∀ l c, ValsIn w ok l c → ValsIn w' ok l c) : StackIn w' ok ls cs :=
  ⟨h.1, fun j l c h1 h2 => hi l c (h.2 j l c h1 h2)⟩
theorem StackIn.push {w : World} {ok : Nat → Prop} {ls : List (List V)} {cs : List Value} (h : StackIn w ok ls cs) {l : List V} {c : Value} (hl : ValsIn w ok l c) : StackIn w ok (ls ++ [l]) (cs ++ [c]) := by
  refine ⟨by simp [h.1], fun j l' c' h1 h2 => ?_⟩
  by_cases hj : j < ls.length
  · rw [List.getElem?_append_left hj] at h1
    rw [List.getElem?_append_left (by rw [h.1]; exact hj)] at h2
    exact h.2 j l' c' h1 h2
  · have : j < (ls ++ [l]).length := (List.getElem?_eq_some_iff.1 h1).1
    simp only [List.length_append, List.length_cons, List.length_nil] at this
    have e : j = ls.length := by omega
    subst e
    rw [List.getElem?_append_right (by omega)] at h1
    rw [List.getElem?_append_right (by rw [h.1]; omega)] at h2
    simp only [Nat.sub_self, List.getElem?_cons_zero, Option.some.injEq] at h1
    rw [h.1] at h2
    simp only [Nat.sub_self, List.getElem?_cons_zero, Option.some.injEq] at h2
    rw [← h1, ← h2]; exact hl
theorem StackIn.pop {w : World} {ok : Nat → Prop} {ls : List (List V)} {l : List V} {cs : List Value} (h : StackIn w ok (ls ++ [l]) cs) : ∃ ds c, cs = ds ++ [c] ∧ StackIn w ok ls ds ∧ ValsIn w ok l c := by
  have hl : cs.length = ls.length + 1 := by simpa using h.1
  obtain ⟨ds, c, rfl⟩ : ∃ ds c, cs = ds ++ [c] := ⟨cs.dropLast, cs.getLast (by intro e; rw [e] at hl; simp at hl), (List.dropLast_concat_getLast _).symm⟩
  have hd : ds.length = ls.length := by simpa using hl
  refine ⟨ds, c, rfl, ⟨hd, fun j l' c' h1 h2 => ?_⟩, ?_⟩
  · have h3 := (List.getElem?_eq_some_iff.1 h1).1
    exact h.2 j l' c' (by rw [List.getElem?_append_left h3]; exact h1) (by rw [List.getElem?_append_left (by omega)]; exact h2)
  · exact h.2 ls.length l c (by simp) (by rw [← hd]; simp)
def Wait (w : World) (B : Nat) (ok : Nat → Prop) (ls : List (List V)) (g cap : Nat) : Prop :=
  ∃ cs, w.ownsRow B 23 1 (.slice (some ⟨g, 0, none⟩) ls.length cap) ls.length cs ∧ StackIn w ok ls cs ∧ ∀ k, ok k → k ≠ g
theorem Wait.lt {w : World} {B : Nat} {ok : Nat → Prop} {ls : List (List V)} {g cap : Nat} (h : Wait w B ok ls g cap) : B ≤ g ∧ g < w.heap.size := by
  obtain ⟨cs, h, -, -⟩ := h
  rcases h.2 with ⟨e, _⟩ | ⟨g', cap', cur, e, h1, h2, _⟩
  · cases e
  · cases e
    exact ⟨h1, (Array.getElem?_eq_some_iff.1 h2).1⟩
theorem Wait.cap {w : World} {B : Nat} {ok : Nat → Prop} {ls : List (List V)} {g cap : Nat} (h : Wait w B ok ls g cap) : ls.length ≤ cap ∧ cap ≤ 9223372036854775807 := by
  obtain ⟨cs, h, -, -⟩ := h
  rcases h.2 with ⟨e, _⟩ | ⟨g', cap', cur, e, h1, h2, h3, h4, _⟩
  · cases e
  · cases e
    exact ⟨h3, h4⟩
theorem Wait.bel {w w' : World} {B : Nat} {ok : Nat → Prop} {ls : List (List V)} {g cap : Nat} (h : Wait w B ok ls g cap) (hb : Below w.heap.size w w') : Wait w' B ok ls g cap := by
  obtain ⟨cs, h1, h2, h3⟩ := h
  exact ⟨cs, own_belK h1 hb, h2.imp fun _ _ h => h.bel hb, h3⟩
theorem Wait.far {w w' : World} {B : Nat} {ok : Nat → Prop} {ls : List (List V)} {g cap g' : Nat} (h : Wait w B ok ls g cap) (hg : w.grownBy w' (some g')) (hne : g ≠ g') (hok : ∀ k, ok k → k ≠ g') : Wait w' B ok ls g cap := by
  obtain ⟨cs, h1, h2, h3⟩ := h
  exact ⟨cs, h1.kept hg (by simp [Value.ownBlock, hne]), h2.imp fun _ _ h => h.grown hg hok, h3⟩
/- The last one, and the others. -/
theorem Wait.pop {w : World} {B : Nat} {ok : Nat → Prop} {ls : List (List V)} {l : List V} {g cap : Nat} (h : Wait w B ok (ls ++ [l]) g cap) : ∃ c, w.cell? ⟨g, ls.length, none⟩ = some c ∧ ValsIn w ok l c ∧ Wait w B ok ls g cap := by
  obtain ⟨cs, h1, h2, h3⟩ := h
  obtain ⟨ds, c, rfl, h4, h5⟩ := h2.pop
  rcases h1.2 with ⟨e, _⟩ | ⟨g', cap', cur, e, q1, q2, q3, q4, q5, q6⟩
  · cases e
  · cases e
    have hl : ds.length = ls.length := h4.1
    simp only [List.length_append, List.length_cons, List.length_nil, Nat.mul_one] at q3 q6
    refine ⟨c, ?_, h5, ds, ⟨by simp [hl], .inr ⟨g, cap, cur, rfl, q1, q2, by omega, q4, q5, ?_⟩⟩, h4, h3⟩
    · have : cur.toList[ls.length]? = some c := by
        have e9 : (cur.toList.take (ls.length + (0 + 1)))[ls.length]? = (ds ++ [c])[ls.length]? := by rw [q6]
        rw [List.getElem?_take_of_lt (by omega)] at e9
        rw [e9, ← hl]; simp
      simp only [World.cell?, q2]
      simpa using this
    · have := congrArg (List.take ls.length) q6
      rw [List.take_take, Nat.min_eq_left (by omega), List.take_append_of_le_length (by omega), List.take_of_length_le (show ds.length ≤ ls.length by omega)] at this
      simpa using this
theorem info23 : (Tryd.prog.info? 23).map (fun i => (i.zero, i.size, i.bytes)) = some (some (.slice none 0 0), 1, 24) := by kernel_rfl
/- One more waits. -/
theorem run_push {w : World} {B : Nat} {ok : Nat → Prop} {ls : List (List V)} {g cap nb : Nat} {l : List V} {c : Value} (hW : Wait w B ok ls g cap) (hnb : w.heap[nb]? = some (.cells #[c] 23)) (hv : ValsIn w ok l c) (hn : ls.length ≤ 5000000000000) (hlow : ∀ k, ok k → k < w.heap.size) (ty : TypeId) :
    ∃ g' cap' w', (Builtin.append_ #[84, 84] ty #[.slice (some ⟨g, 0, none⟩) ls.length cap, .slice (some ⟨nb, 0, none⟩) 1 1]).run Tryd.prog w = .ok (.slice (some ⟨g', 0, none⟩) (ls.length + 1) cap') w' ∧ Wait w' B ok (ls ++ [l]) g' cap' ∧ w.grownBy w' (some g) ∧ (g' = g ∨ w.heap.size = g') := by
  obtain ⟨i0, hi, hz0, hz1, hz2⟩ := info_parts info23
  have hgl := hW.lt
  obtain ⟨cs, h1, h2, h3⟩ := hW
  obtain ⟨a9, c9, rfl⟩ := hv.form
  obtain ⟨g', cap', w', hr, ho, hg, hat, hlt⟩ := run_append_lies (P := Tryd.prog) w 84 ty B 23 i0 _ 1 24 Tryd.underlying84 hi hz0 hz1 hz2 rfl (by decide) _ ls.length cs h1 ⟨nb, 0, none⟩ 1 1 [.slice a9 l.length c9] rfl
    (World.news_of_block (cs := #[.slice a9 l.length c9]) hnb) (by intro u hu; simp only [List.mem_cons, List.not_mem_nil, or_false] at hu; subst hu; rfl) (by decide) (by unfold maxLen; omega) (by omega) (by omega) w.heap.size rfl
  have hgb : w.grownBy w' (some g) := by simpa [Value.ownBlock] using hg
  refine ⟨g', cap', w', hr, ⟨cs ++ [.slice a9 l.length c9], by simpa using ho, (h2.imp fun _ _ h => h.grown hgb h3).push (hv.grown hgb h3), ?_⟩, hgb, ?_⟩
  · intro k hk
    rcases hat with hat | hat
    · simp only [Value.ownBlock, Option.some.injEq] at hat
      rw [← hat]; exact h3 k hk
    · have := hlow k hk; omega
  · rcases hat with hat | hat
    · simp only [Value.ownBlock, Option.some.injEq] at hat
      exact .inl hat.symm
    · exact .inr hat.symm
theorem wp_push {w : World} {o : Oper} {a : Act} {K : Act → World → Prop} {Q : Exit → Act → World → Prop} (s x : Operand) (ho : o.op = .call { callee := .builtin .append, args := #[s, x], argTypes := #[84, 84] })
    {B : Nat} {ok : Nat → Prop} {ls : List (List V)} {g cap nb : Nat} {l : List V} {c : Value} (hs : a.eval s = .slice (some ⟨g, 0, none⟩) ls.length cap) (hx : a.eval x = .slice (some ⟨nb, 0, none⟩) 1 1)
    (hW : Wait w B ok ls g cap) (hnb : w.heap[nb]? = some (.cells #[c] 23)) (hv : ValsIn w ok l c) (hn : ls.length ≤ 5000000000000) (hlow : ∀ k, ok k → k < w.heap.size)
    (hK : ∀ g' cap' w', Wait w' B ok (ls ++ [l]) g' cap' → w.grownBy w' (some g) → (g' = g ∨ w.heap.size = g') → K (a.put o.dst (.slice (some ⟨g', 0, none⟩) (ls.length + 1) cap')) w') : o.wp Tryd.prog a w K Q := by
  obtain ⟨g', cap', w', hr, h2, h3, h4⟩ := run_push hW hnb hv hn hlow o.type
  unfold Oper.wp execOp
  simp only [ho, resolve, invoke, builtin, Sem.run_bind, Sem.run_pure, Result.andThen_ok, List.map_toArray, List.map_cons, List.map_nil, hs, hx, hr]
  exact hK g' cap' w' h2 h3 h4
theorem step_push {w : World} {ops : Array Oper} {o : Oper} {a : Act} {K : Act → World → Prop} {Q : Exit → Act → World → Prop} {E : Prop} (hgd : o.guard = none) (s x : Operand) (ho : o.op = .call { callee := .builtin .append, args := #[s, x], argTypes := #[84, 84] })
    {B : Nat} {ok : Nat → Prop} {ls : List (List V)} {g cap nb : Nat} {l : List V} {c : Value} (hs : a.eval s = .slice (some ⟨g, 0, none⟩) ls.length cap) (hx : a.eval x = .slice (some ⟨nb, 0, none⟩) 1 1)
    (hW : Wait w B ok ls g cap) (hnb : w.heap[nb]? = some (.cells #[c] 23)) (hv : ValsIn w ok l c) (hn : ls.length ≤ 5000000000000) (hlow : ∀ k, ok k → k < w.heap.size)
    (hK : ∀ g' cap' w', Wait w' B ok (ls ++ [l]) g' cap' → w.grownBy w' (some g) → (g' = g ∨ w.heap.size = g') → K (a.put o.dst (.slice (some ⟨g', 0, none⟩) (ls.length + 1) cap')) w') :
    if Region.wanted o (yielded ops a.tmps) = true then Oper.wp Tryd.prog o a w K Q else E := by
  have hw : Region.wanted o (yielded ops a.tmps) = true := by simp [Region.wanted, hgd]
  rw [if_pos hw]
  exact wp_push s x ho hs hx hW hnb hv hn hlow hK
end Go.Proofs.YtaifciobaapehaaDoor

/- Two rows of lists that wait, side by side. -/
set_option linter.unusedSimpArgs false
set_option linter.unusedVariables false
namespace Go.Proofs.YtaifciobaapehaaDoor
open Go.RowKit

def okX (ok : Nat → Prop) (B i : Nat) : Nat → Prop := fun k => (ok k ∧ k < B) ∨ k = i
theorem okX_lt {ok : Nat → Prop} {B i H : Nat} (h1 : B ≤ H) (h2 : i < H) : ∀ k, okX ok B i k → k < H := by
  intro k hk
  rcases hk with hk | hk <;> omega
theorem okX_ne {ok : Nat → Prop} {B i g : Nat} (h1 : B ≤ g) (h2 : i ≠ g) : ∀ k, okX ok B i k → k ≠ g := by
  intro k hk
  rcases hk with hk | hk <;> omega
theorem bel_al {a w : World} (h : Below a.heap.size a w) (o : Obj) : Below a.heap.size a (w.alloc o) := bel_trans h (bel_alloc w o)
theorem bel_dr {a w : World} (h : Below a.heap.size a w) : Below a.heap.size a w.drew := h.drew
theorem szle {a w : World} (h : Below a.heap.size a w) : a.heap.size ≤ w.heap.size := h.size
theorem two_up {a w w' : World} {g g' : Nat} (h : Below a.heap.size a w) (q : w.grownBy w' (some g)) (o : g' = g ∨ w.heap.size = g') : a.grownBy w' (some g) ∧ (g' = g ∨ a.heap.size ≤ g') :=
  ⟨gb_trans (gb_below h) q, o.imp id fun e => by have := h.size; omega⟩
theorem heap_old {w : World} {k : Nat} {v : Obj} (h : w.heap[k]? = some v) (o : Obj) : (w.alloc o).heap[k]? = some v :=
  ((World.grownBy_alloc w o none).block k (Array.getElem?_eq_some_iff.1 h).1 (by simp)).trans h
theorem heap_at6 (w : World) (o1 o2 o3 o4 o5 o6 : Obj) (i : Nat) (hi : i < 6) : ((((((w.alloc o1).alloc o2).alloc o3).alloc o4).alloc o5).alloc o6).heap[w.heap.size + i]? = [o1, o2, o3, o4, o5, o6][i]? := by
  rcases (show i = 0 ∨ i = 1 ∨ i = 2 ∨ i = 3 ∨ i = 4 ∨ i = 5 by omega) with rfl | rfl | rfl | rfl | rfl | rfl
  · exact heap_old (heap_old (heap_old (heap_old (heap_old (heap_alloc_new w o1) _) _) _) _) _
  · exact heap_old (heap_old (heap_old (heap_old (by simpa using heap_alloc_new (w.alloc o1) o2) _) _) _) _
  · exact heap_old (heap_old (heap_old (by simpa using heap_alloc_new ((w.alloc o1).alloc o2) o3) _) _) _
  · exact heap_old (heap_old (by simpa using heap_alloc_new (((w.alloc o1).alloc o2).alloc o3) o4) _) _
  · exact heap_old (by simpa using heap_alloc_new ((((w.alloc o1).alloc o2).alloc o3).alloc o4) o5) _
  · simpa using heap_alloc_new (((((w.alloc o1).alloc o2).alloc o3).alloc o4).alloc o5) o6
def SE (w : World) (ok ok' : Nat → Prop) (ia ib : Nat) (ls rs : List (List V)) (gL gR cL cR : Nat) (wr : World) : Prop :=
  Wait wr w.heap.size (okX ok w.heap.size ia) ls gL cL ∧ Wait wr w.heap.size (okX ok' w.heap.size ib) rs gR cR ∧ gL ≠ gR ∧ ia ≠ gL ∧ ia ≠ gR ∧ ib ≠ gL ∧ ib ≠ gR ∧ ia < wr.heap.size ∧ ib < wr.heap.size ∧ Below w.heap.size w wr
theorem SE.bel {w wr wr' : World} {ok ok' : Nat → Prop} {ia ib : Nat} {ls rs : List (List V)} {gL gR cL cR : Nat} (h : SE w ok ok' ia ib ls rs gL gR cL cR wr) (hb : Below wr.heap.size wr wr') : SE w ok ok' ia ib ls rs gL gR cL cR wr' := by
  obtain ⟨h3, h4, h5, h6, h7, h8, h9, h10, h11, h12⟩ := h
  exact ⟨h3.bel hb, h4.bel hb, h5, h6, h7, h8, h9, Nat.lt_of_lt_of_le h10 hb.size, Nat.lt_of_lt_of_le h11 hb.size, bel_trans h12 hb⟩
theorem SE.swap {w wr : World} {ok ok' : Nat → Prop} {ia ib : Nat} {ls rs : List (List V)} {gL gR cL cR : Nat} (h : SE w ok ok' ia ib ls rs gL gR cL cR wr) : SE w ok' ok ib ia rs ls gR gL cR cL wr := by
  obtain ⟨h3, h4, h5, h6, h7, h8, h9, h10, h11, h12⟩ := h
  exact ⟨h4, h3, h5.symm, h9, h8, h7, h6, h11, h10, h12⟩
theorem SE.lows {w wr : World} {ok ok' : Nat → Prop} {ia ib : Nat} {ls rs : List (List V)} {gL gR cL cR : Nat} (h : SE w ok ok' ia ib ls rs gL gR cL cR wr) : ∀ k, okX ok w.heap.size ia k → k < wr.heap.size := okX_lt h.2.2.2.2.2.2.2.2.2.size h.2.2.2.2.2.2.2.1
/- Both are pushed, one behind the other. -/
theorem push_end {w w4 w5 w6 : World} {ok ok' : Nat → Prop} {ia ib : Nat} {ls rs : List (List V)} {gL gR cL cR g5 g6 c5 c6 : Nat} {lx ly : List V} (h : SE w ok ok' ia ib ls rs gL gR cL cR w4) (q5 : w4.grownBy w5 (some gL)) (h5 : Wait w5 w.heap.size (okX ok w.heap.size ia) (ls ++ [lx]) g5 c5) (o5 : g5 = gL ∨ w4.heap.size ≤ g5)
    (q6 : w5.grownBy w6 (some gR)) (h6 : Wait w6 w.heap.size (okX ok' w.heap.size ib) (rs ++ [ly]) g6 c6) (o6 : g6 = gR ∨ w5.heap.size ≤ g6) : SE w ok ok' ia ib (ls ++ [lx]) (rs ++ [ly]) g5 g6 c5 c6 w6 := by
  obtain ⟨h3, h4, e1, e2, e3, e4, e5, e6, e7, hB⟩ := h
  have l3 := h3.lt
  have l4 := h4.lt
  have l5 := h5.lt
  have s5 := q5.size
  have s6 := q6.size
  have hn : g5 ≠ gR := by omega
  refine ⟨h5.far q6 hn (okX_ne l4.1 e3), h6, by omega, by omega, by omega, by omega, by omega, by omega, by omega, ?_⟩
  exact gb_none (gb_out (gb_out (gb_below hB) q5 l3.1) q6 l4.1)
def SI (w : World) (ok ok' : Nat → Prop) (ia ib : Nat) (ls rs : List (List V)) (lv rv : Value) (wr : World) : Prop :=
  ∃ gL gR cL cR, lv = .slice (some ⟨gL, 0, none⟩) ls.length cL ∧ rv = .slice (some ⟨gR, 0, none⟩) rs.length cR ∧ SE w ok ok' ia ib ls rs gL gR cL cR wr
theorem SI.bel {w wr wr' : World} {ok ok' : Nat → Prop} {ia ib : Nat} {ls rs : List (List V)} {lv rv : Value} (h : SI w ok ok' ia ib ls rs lv rv wr) (hb : Below wr.heap.size wr wr') : SI w ok ok' ia ib ls rs lv rv wr' := by
  obtain ⟨gL, gR, cL, cR, h1, h2, h3⟩ := h
  exact ⟨gL, gR, cL, cR, h1, h2, h3.bel hb⟩
theorem own_one {w : World} {g B : Nat} {t : TypeId} {v : Value} (h : w.heap[g]? = some (.cells #[v] t)) (hB : B ≤ g) : w.ownsRow B t 1 (.slice (some ⟨g, 0, none⟩) 1 1) 1 [v] :=
  ⟨rfl, .inr ⟨g, 1, #[v], rfl, hB, h, Nat.le_refl _, by simp [maxLen], rfl, rfl⟩⟩
theorem wait_one {w : World} {g i B : Nat} {ok : Nat → Prop} {t : V} {c0 c1 c2 c3 c4 : Value} (hx : In w (okX ok B i) t (.agg #[c0, c1, c2, c3, c4])) (h1 : BoxIs w i c0 c1 c2 c3 c4) (h2 : w.heap[g]? = some (.cells #[.slice (some ⟨i, 0, none⟩) 1 1] 23)) (hB : B ≤ g) (hne : i ≠ g) : Wait w B (okX ok B i) [[t]] g 1 := by
  refine ⟨[.slice (some ⟨i, 0, none⟩) 1 1], own_one h2 hB, ⟨rfl, ?_⟩, okX_ne hB hne⟩
  intro j l c h3 h4
  cases j with
  | zero =>
    simp only [List.getElem?_cons_zero, Option.some.injEq] at h3 h4
    subst h3 h4
    exact vals_one hx h1 (.inr rfl)
  | succ j => simp at h3
theorem si_start {w W : World} {ok ok' : Nat → Prop} {ia ib gL gR : Nat} {a b : V} {a0 a1 a2 a3 a4 b0 b1 b2 b3 b4 : Value} (ha : In w ok a (.agg #[a0, a1, a2, a3, a4])) (hb : In w ok' b (.agg #[b0, b1, b2, b3, b4])) (hB : Below w.heap.size w W)
    (h1 : W.heap[gL]? = some (.cells #[.slice (some ⟨ia, 0, none⟩) 1 1] 23)) (h2 : W.heap[gR]? = some (.cells #[.slice (some ⟨ib, 0, none⟩) 1 1] 23)) (h3 : BoxIs W ia a0 a1 a2 a3 a4) (h4 : BoxIs W ib b0 b1 b2 b3 b4) (hn : gL ≠ gR ∧ ia ≠ gL ∧ ia ≠ gR ∧ ib ≠ gL ∧ ib ≠ gR ∧ w.heap.size ≤ gL ∧ w.heap.size ≤ gR) :
    SI w ok ok' ia ib [[a]] [[b]] (.slice (some ⟨gL, 0, none⟩) 1 1) (.slice (some ⟨gR, 0, none⟩) 1 1) W := by
  obtain ⟨n1, n2, n3, n4, n5, n6, n7⟩ := hn
  have k1 : In W (okX ok w.heap.size ia) a (.agg #[a0, a1, a2, a3, a4]) := (ha.low.bel hB).weak fun k hk => .inl hk
  have k2 : In W (okX ok' w.heap.size ib) b (.agg #[b0, b1, b2, b3, b4]) := (hb.low.bel hB).weak fun k hk => .inl hk
  exact ⟨gL, gR, 1, 1, rfl, rfl, wait_one k1 h3 h1 n6 n2, wait_one k2 h4 h2 n7 n5, n1, n2, n3, n4, n5, h3.lt, h4.lt, hB⟩
/- As many on both sides. -/
def PL (ls rs : List (List V)) : Prop := rs.length = ls.length ∧ ∀ (j : Nat) (l r : List V), ls[j]? = some l → rs[j]? = some r → r.length = l.length
theorem PL.push {ls rs : List (List V)} (h : PL ls rs) {l r : List V} (hl : r.length = l.length) : PL (ls ++ [l]) (rs ++ [r]) := by
  refine ⟨by simp [h.1], fun j l' r' h1 h2 => ?_⟩
  by_cases hj : j < ls.length
  · rw [List.getElem?_append_left hj] at h1
    rw [List.getElem?_append_left (by rw [h.1]; exact hj)] at h2
    exact h.2 j l' r' h1 h2
  · have : j < (ls ++ [l]).length := (List.getElem?_eq_some_iff.1 h1).1
    simp only [List.length_append, List.length_cons, List.length_nil] at this
    have e : j = ls.length := by omega
    subst e
    rw [List.getElem?_append_right (by omega)] at h1
    rw [List.getElem?_append_right (by rw [h.1]; omega)] at h2
    simp only [Nat.sub_self, List.getElem?_cons_zero, Option.some.injEq] at h1
    rw [h.1] at h2
    simp only [Nat.sub_self, List.getElem?_cons_zero, Option.some.injEq] at h2
    rw [← h1, ← h2]; exact hl
theorem PL.pop {ls rs : List (List V)} {l : List V} (h : PL (ls ++ [l]) rs) : ∃ qs r, rs = qs ++ [r] ∧ PL ls qs ∧ r.length = l.length := by
  have hl : rs.length = ls.length + 1 := by simpa using h.1
  obtain ⟨qs, r, rfl⟩ : ∃ qs r, rs = qs ++ [r] := ⟨rs.dropLast, rs.getLast (by intro e; rw [e] at hl; simp at hl), (List.dropLast_concat_getLast _).symm⟩
  have hd : qs.length = ls.length := by simpa using hl
  refine ⟨qs, r, rfl, ⟨hd, fun j l' r' h1 h2 => ?_⟩, ?_⟩
  · have h3 := (List.getElem?_eq_some_iff.1 h1).1
    exact h.2 j l' r' (by rw [List.getElem?_append_left h3]; exact h1) (by rw [List.getElem?_append_left (by omega)]; exact h2)
  · exact h.2 ls.length l r (by simp) (by rw [← hd]; simp)
theorem ends {α : Type} (ls : List α) : ls = [] ∨ ∃ ms l, ls = ms ++ [l] := by
  cases ls with
  | nil => exact .inl rfl
  | cons x xs => exact .inr ⟨(x :: xs).dropLast, (x :: xs).getLast (by simp), (List.dropLast_concat_getLast _).symm⟩
theorem drop_both {xs ys : List V} {k : Nat} (h1 : k < xs.length) (h2 : k < ys.length) : (xs.drop k = ys.drop k ↔ xs[k] = ys[k] ∧ xs.drop (k + 1) = ys.drop (k + 1)) := by
  rw [List.drop_eq_getElem_cons h1, List.drop_eq_getElem_cons h2, List.cons.injEq]
theorem snoc_both {α : Type} {a b : List α} {x y : α} : (a ++ [x] = b ++ [y] ↔ a = b ∧ x = y) := by
  constructor
  · intro h; exact List.append_inj' h rfl |>.imp id fun e => List.cons.inj e |>.1
  · rintro ⟨rfl, rfl⟩; rfl
/- What Same answers. -/
def SameP (w : World) (a b : V) (e : Ending) (w' : World) : Prop := ∃ r, e = .returned (.bool r) ∧ (r = true ↔ a = b) ∧ Below w.heap.size w w'
/- On the way through two lists. -/
def SJ (w : World) (ok ok' : Nat → Prop) (ia ib : Nat) (a b : V) (xs ys : List V) (xv yv : Value) (M k : Nat) (lv rv : Value) (wr : World) : Prop :=
  ∃ ls rs, (a = b ↔ ls = rs ∧ xs.drop k = ys.drop k) ∧ PL ls rs ∧ mu ls + cnts (xs.drop k) + 1 ≤ M ∧ M ≤ 2000000000001 ∧ ValsIn wr (okX ok w.heap.size ia) xs xv ∧ ValsIn wr (okX ok' w.heap.size ib) ys yv ∧ SI w ok ok' ia ib ls rs lv rv wr
theorem SJ.bel {w wr wr' : World} {ok ok' : Nat → Prop} {ia ib : Nat} {a b : V} {xs ys : List V} {xv yv : Value} {M k : Nat} {lv rv : Value} (h : SJ w ok ok' ia ib a b xs ys xv yv M k lv rv wr) (hb : Below wr.heap.size wr wr') : SJ w ok ok' ia ib a b xs ys xv yv M k lv rv wr' := by
  obtain ⟨ls, rs, h1, h2, h3, h4, h5, h6, h7⟩ := h
  exact ⟨ls, rs, h1, h2, h3, h4, h5.bel hb, h6.bel hb, h7.bel hb⟩
end Go.Proofs.YtaifciobaapehaaDoor

/- A text more in a row of the call's own. -/
set_option linter.unusedSimpArgs false
set_option linter.unusedVariables false
namespace Go.Proofs.YtaifciobaapehaaDoor
open Go.RowKit

theorem run_pushS {W : World} {B : Nat} {v : Value} {n : Nat} {cs : List Value} {nb : Nat} {k : ByteArray} (ho : W.ownsRow B 9 1 v n cs) (hnb : W.heap[nb]? = some (.cells #[.string k] 9)) (hn : n ≤ 1000000) (hB : B ≤ W.heap.size) (ty : TypeId) :
    ∃ g cap W', (Builtin.append_ #[22, 22] ty #[v, .slice (some ⟨nb, 0, none⟩) 1 1]).run Tryd.prog W = .ok (.slice (some ⟨g, 0, none⟩) (n + 1) cap) W' ∧ W'.ownsRow B 9 1 (.slice (some ⟨g, 0, none⟩) (n + 1) cap) (n + 1) (cs ++ [.string k]) ∧ W.grownBy W' v.ownBlock ∧ (v.ownBlock = some g ∨ W.heap.size = g) := by
  obtain ⟨i0, hi, hz0, hz1, hz2⟩ := info_parts info9
  obtain ⟨g, cap, W', hr, h1, h2, h3, -⟩ := run_append_lies (P := Tryd.prog) W 22 ty B 9 i0 _ 1 16 Tryd.underlying22 hi hz0 hz1 hz2 rfl (by decide) v n cs ho ⟨nb, 0, none⟩ 1 1 [.string k] rfl
    (World.news_of_block (cs := #[.string k]) hnb) (by intro u hu; simp only [List.mem_cons, List.not_mem_nil, or_false] at hu; subst hu; rfl) (by decide) (by unfold maxLen; omega) (by omega) hB W.heap.size rfl
  exact ⟨g, cap, W', hr, h1, h2, h3.imp id Eq.symm⟩
theorem gb_far {a w w' : World} {r : Option Nat} (hb : Below a.heap.size a w) (hg : w.grownBy w' r) (hr : ∀ g, r = some g → a.heap.size ≤ g) : Below a.heap.size a w' :=
  ⟨hg.os.trans hb.os, hg.tape.trans hb.tape, hg.output.trans hb.output, Nat.le_trans hb.size hg.size, fun k hk => (hg.block k (Nat.lt_of_lt_of_le hk hb.size) (fun e => by have := hr k e.symm; omega)).trans (hb.block k hk)⟩
end Go.Proofs.YtaifciobaapehaaDoor

/- An object that is being made: a row of keys and a row of items, side by side. -/
set_option linter.unusedSimpArgs false
set_option linter.unusedVariables false
namespace Go.Proofs.YtaifciobaapehaaDoor
open Go.RowKit

theorem run_pushV {W : World} {B : Nat} {v : Value} {n : Nat} {cs : List Value} {nb : Nat} {k m : Int} {ss : ByteArray} {a7 a8 : Option Addr} {l7 c7 l8 c8 : Nat} (ho : W.ownsRow B 25 5 v n cs) (hnb : W.heap[nb]? = some (.cells #[.int .i64 k, .int .i64 m, .string ss, .slice a7 l7 c7, .slice a8 l8 c8] 25)) (hn : n ≤ 1000000) (hB : B ≤ W.heap.size) (ty : TypeId) :
    ∃ g cap W', (Builtin.append_ #[23, 23] ty #[v, .slice (some ⟨nb, 0, none⟩) 1 1]).run Tryd.prog W = .ok (.slice (some ⟨g, 0, none⟩) (n + 1) cap) W' ∧ W'.ownsRow B 25 5 (.slice (some ⟨g, 0, none⟩) (n + 1) cap) (n + 1) (cs ++ [.int .i64 k, .int .i64 m, .string ss, .slice a7 l7 c7, .slice a8 l8 c8]) ∧ W.grownBy W' v.ownBlock ∧ (v.ownBlock = some g ∨ W.heap.size = g) := by
  obtain ⟨i0, hi, hz0, hz1, hz2⟩ := info_parts info25
  obtain ⟨g, cap, W', hr, h1, h2, h3, -⟩ := run_append_lies (P := Tryd.prog) W 23 ty B 25 i0 _ 5 80 Tryd.underlying23 hi hz0 hz1 hz2 rfl (by decide) v n cs ho ⟨nb, 0, none⟩ 1 1 [.int .i64 k, .int .i64 m, .string ss, .slice a7 l7 c7, .slice a8 l8 c8] rfl
    (World.news_of_block (cs := #[.int .i64 k, .int .i64 m, .string ss, .slice a7 l7 c7, .slice a8 l8 c8]) hnb) (one5 _ _ _ _ _ _ _ _ _) (by decide) (by unfold maxLen; omega) (by omega) hB W.heap.size rfl
  exact ⟨g, cap, W', hr, h1, h2, h3.imp id Eq.symm⟩
/- An append in a region that draws, by its run. -/
theorem step_run {w : World} {ops : Array Oper} {o : Oper} {a : Act} {K : Act → World → Prop} {Q : Exit → Act → World → Prop} {E : Prop} (hgd : o.guard = none) (s x : Operand) (t : TypeId) (ho : o.op = .call { callee := .builtin .append, args := #[s, x], argTypes := #[t, t] })
    (v u : Value) (hs : a.eval s = v) (hx : a.eval x = u) (R : Value → World → Prop) (hr : ∀ ty, ∃ v' w', (Builtin.append_ #[t, t] ty #[v, u]).run Tryd.prog w = .ok v' w' ∧ R v' w') (hK : ∀ v' w', R v' w' → K (a.put o.dst v') w') :
    if Region.wanted o (yielded ops a.tmps) = true then Oper.wp Tryd.prog o a w K Q else E := by
  have hw : Region.wanted o (yielded ops a.tmps) = true := by simp [Region.wanted, hgd]
  rw [if_pos hw]
  obtain ⟨v', w', h1, h2⟩ := hr o.type
  unfold Oper.wp execOp
  simp only [ho, resolve, invoke, builtin, Sem.run_bind, Sem.run_pure, Result.andThen_ok, List.map_toArray, List.map_cons, List.map_nil, hs, hx, h1]
  exact hK v' w' h2
/- Both rows. -/
def OE (w : World) (ok : Nat → Prop) (B d : Nat) (ks : List (List UInt8)) (l : List V) (kv lv : Value) (wr : World) : Prop :=
  ∃ cs, wr.ownsRow B 9 1 kv ks.length (ks.map str) ∧ wr.ownsRow B 25 5 lv l.length cs ∧ RowV (VIs wr (fun k => ok k ∧ k < w.heap.size) d) l cs ∧ (∀ g, kv.ownBlock = some g → lv.ownBlock ≠ some g) ∧ Below w.heap.size w wr ∧ w.heap.size ≤ B
theorem OE.bel {w wr wr' : World} {ok : Nat → Prop} {B d : Nat} {ks : List (List UInt8)} {l : List V} {kv lv : Value} (h : OE w ok B d ks l kv lv wr) (hb : Below wr.heap.size wr wr') : OE w ok B d ks l kv lv wr' := by
  obtain ⟨cs, h1, h2, h3, h4, h5, h6⟩ := h
  exact ⟨cs, own_bel h1 hb, own_bel h2 hb, h3.imp fun _ _ h => h.bel hb, h4, bel_trans h5 hb, h6⟩
/- A key more. -/
theorem OE.key {w W : World} {ok : Nat → Prop} {B d : Nat} {ks : List (List UInt8)} {l : List V} {kv lv : Value} (h : OE w ok B d ks l kv lv W) {nb : Nat} {k : List UInt8} (hnb : W.heap[nb]? = some (.cells #[.string ⟨k.toArray⟩] 9)) (hn : ks.length ≤ 1000000) (hB : B ≤ W.heap.size) (ty : TypeId) :
    ∃ v' W', (Builtin.append_ #[22, 22] ty #[kv, .slice (some ⟨nb, 0, none⟩) 1 1]).run Tryd.prog W = .ok v' W' ∧ OE w ok B d (ks ++ [k]) l v' lv W' ∧ W.grownBy W' kv.ownBlock ∧ ∃ g cap, v' = .slice (some ⟨g, 0, none⟩) (ks.length + 1) cap := by
  obtain ⟨cs, h1, h2, h3, h4, h5, h6⟩ := h
  obtain ⟨g, cap, W', hr, ho, hg, hor⟩ := run_pushS h1 hnb hn hB ty
  have low : ∀ g', kv.ownBlock = some g' → w.heap.size ≤ g' := fun g' e => Nat.le_trans h6 (h1.lt g' e).1
  refine ⟨_, W', hr, ⟨cs, by simpa [str] using ho, h2.kept hg ?_, h3.imp fun _ _ h => h.grown hg (fun j hj e => by have := low j e.symm; have := hj.2; omega), ?_, gb_far h5 hg low, h6⟩, hg, g, cap, rfl⟩
  · cases hl : lv.ownBlock with
    | none => exact .inl rfl
    | some g' => exact .inr fun e => h4 g' e.symm hl
  · intro g' e hl
    simp only [Value.ownBlock, Option.some.injEq] at e
    subst e
    rcases hor with h0 | h0
    · exact h4 _ h0 hl
    · have := (h2.lt _ hl).2; omega
/- An item more. -/
theorem OE.item {w W : World} {ok : Nat → Prop} {B d : Nat} {ks : List (List UInt8)} {l : List V} {kv lv : Value} (h : OE w ok B d ks l kv lv W) {nb : Nat} {y : V} {a7 a8 : Option Addr} {c7 c8 : Nat} (hnb : W.heap[nb]? = some (.cells #[.int .i64 y.kind, .int .i64 y.n, .string ⟨y.s.toArray⟩, .slice a7 y.keys.length c7, .slice a8 y.l.length c8] 25))
    (hy : VIs W (fun k => ok k ∧ k < w.heap.size) d y (.agg #[.int .i64 y.kind, .int .i64 y.n, .string ⟨y.s.toArray⟩, .slice a7 y.keys.length c7, .slice a8 y.l.length c8])) (hn : l.length ≤ 1000000) (hB : B ≤ W.heap.size) (ty : TypeId) :
    ∃ v' W', (Builtin.append_ #[23, 23] ty #[lv, .slice (some ⟨nb, 0, none⟩) 1 1]).run Tryd.prog W = .ok v' W' ∧ OE w ok B d ks (l ++ [y]) kv v' W' ∧ W.grownBy W' lv.ownBlock ∧ ∃ g cap, v' = .slice (some ⟨g, 0, none⟩) (l.length + 1) cap := by
  obtain ⟨cs, h1, h2, h3, h4, h5, h6⟩ := h
  obtain ⟨g, cap, W', hr, ho, hg, hor⟩ := run_pushV h2 hnb hn hB ty
  have low : ∀ g', lv.ownBlock = some g' → w.heap.size ≤ g' := fun g' e => Nat.le_trans h6 (h2.lt g' e).1
  have conv : ∀ x v, VIs W (fun k => ok k ∧ k < w.heap.size) d x v → VIs W' (fun k => ok k ∧ k < w.heap.size) d x v := fun x v h => h.grown hg (fun j hj e => by have := low j e.symm; have := hj.2; omega)
  have rx : RowV (VIs W' (fun k => ok k ∧ k < w.heap.size) d) [y] [.int .i64 y.kind, .int .i64 y.n, .string ⟨y.s.toArray⟩, .slice a7 y.keys.length c7, .slice a8 y.l.length c8] := ⟨_, _, _, _, _, [], rfl, conv _ _ hy, rfl⟩
  refine ⟨_, W', hr, ⟨_, h1.kept hg ?_, by simpa using ho, rx.append (h3.imp conv), ?_, gb_far h5 hg low, h6⟩, hg, g, cap, rfl⟩
  · cases hl : kv.ownBlock with
    | none => exact .inl rfl
    | some g' => exact .inr fun e => h4 g' hl e.symm
  · intro g' e hl
    simp only [Value.ownBlock, Option.some.injEq] at hl
    subst hl
    rcases hor with h0 | h0
    · exact h4 _ e h0
    · have := (h1.lt _ e).2; omega
end Go.Proofs.YtaifciobaapehaaDoor

/- What SplitPath of package stairwellref does. -/
set_option linter.unusedSimpArgs false
set_option linter.unusedVariables false
namespace Go.Proofs.YtaifciobaapehaaDoor
open Go.RowKit

/- So far: the names that are done, the one that is under way. -/
def SP (w : World) (p : List UInt8) (k : Nat) (now : List UInt8) (l : List (List UInt8)) (lv : Value) (wr : World) : Prop :=
  wr.ownsRow w.heap.size 9 1 lv l.length (l.map str) ∧ Below w.heap.size w wr ∧ now.length ≤ 2 * k ∧ l.length ≤ k ∧ (∀ x ∈ l, x.length ≤ 2 * k) ∧ spS (p.drop k) now l = spS (p.drop 1) [] []
theorem SP.form {w wr : World} {p now : List UInt8} {k : Nat} {l : List (List UInt8)} {lv : Value} (h : SP w p k now l lv wr) : ∃ a c, lv = .slice a l.length c := by
  rcases h.1.2 with ⟨h1, h2⟩ | ⟨g, cap, cur, h1, -⟩
  · exact ⟨none, 0, by rw [h1, h2]⟩
  · exact ⟨_, _, h1⟩
theorem SP.next {w wr : World} {p now now' : List UInt8} {k j : Nat} {l : List (List UInt8)} {lv : Value} (h : SP w p k now l lv wr) (hj : k ≤ j) (hn : now'.length ≤ 2 * j) (hs : spS (p.drop j) now' l = spS (p.drop k) now l) : SP w p j now' l lv wr :=
  ⟨h.1, h.2.1, hn, by have := h.2.2.2.1; omega, fun x hx => by have := h.2.2.2.2.1 x hx; omega, hs.trans h.2.2.2.2.2⟩
theorem SP.push {w wr W' : World} {p now : List UInt8} {k g cap : Nat} {l : List (List UInt8)} {lv : Value} (h : SP w p k now l lv wr) (ho : W'.ownsRow w.heap.size 9 1 (.slice (some ⟨g, 0, none⟩) (l.length + 1) cap) (l.length + 1) (l.map str ++ [.string ⟨now.toArray⟩])) (hg : (wr.alloc (.cells #[.string ⟨now.toArray⟩] 9)).grownBy W' lv.ownBlock) :
    W'.ownsRow w.heap.size 9 1 (.slice (some ⟨g, 0, none⟩) (l ++ [now]).length cap) (l ++ [now]).length ((l ++ [now]).map str) ∧ Below w.heap.size w W' := by
  refine ⟨by simpa [str] using ho, ?_⟩
  refine gb_far (bel_trans h.2.1 (bel_alloc _ _)) hg fun g' e => ?_
  have := h.1.lt g' e
  omega
theorem cat_byte (a : List UInt8) (c : UInt8) : ByteArray.mk a.toArray ++ ByteArray.mk #[c] = ByteArray.mk (a ++ [c]).toArray := by
  have h : (ByteArray.mk a.toArray ++ ByteArray.mk #[c]).data.toList = a ++ [c] := by simp [ByteArray.data_append]
  have e : (ByteArray.mk a.toArray ++ ByteArray.mk #[c]).data = (a ++ [c]).toArray := by rw [← Array.toList_inj, h]
  cases hx : ByteArray.mk a.toArray ++ ByteArray.mk #[c] with
  | mk d => rw [hx] at e; simp only at e; rw [e]
theorem cut_byte (p : List UInt8) (k : Nat) (h : k < p.length) : (ByteArray.mk p.toArray).extract k (k + 1) = ByteArray.mk #[p[k]] := by
  have e : ((ByteArray.mk p.toArray).extract k (k + 1)).data = #[p[k]] := by
    rw [ByteArray.data_extract]
    rw [← Array.toList_inj]
    simp only [Array.toList_extract, List.extract_eq_take_drop, Nat.add_sub_cancel_left]
    rw [List.drop_eq_getElem_cons h]
    rfl
  cases hx : (ByteArray.mk p.toArray).extract k (k + 1) with
  | mk d => rw [hx] at e; simp only at e; rw [e]

set_option maxRecDepth 100000 in
set_option maxHeartbeats 8000000 in
theorem rsplit_at (w : World) (c : UInt8) (r : List UInt8) (hc : c = 47) (hp : (c :: r).length ≤ 2000) :
    Calls Tryd.prog 26 #[str (c :: r)] w fun e w' => ∃ v, e = .returned (.tuple #[v, .int .i64 (splitP (c :: r)).2]) ∧ Below w.heap.size w w' ∧ StrsAre w' (fun k => w.heap.size ≤ k) (splitP (c :: r)).1 v := by
  have HSP : Hid (splitP (c :: r) = match spS r [] [] with | none => ([], 1) | some l => (l, 0)) := hidI (by
    rw [sp_split]
    unfold splitP
    simp only
    rw [hc, whole_cons 47 r (by decide)]
    cases hw : wholeP r with
    | true => rw [if_neg (by simp only [List.length_cons] at hp ⊢; simp; omega)]; simp
    | false => rw [if_pos (by simp)]; simp)
  obtain ⟨p, hpd⟩ : ∃ p, c :: r = p := ⟨_, rfl⟩
  have HR1 : Hid (p.drop 1 = r) := hidI (by rw [← hpd]; rfl)
  have hne : p.isEmpty = false := by rw [← hpd]; rfl
  have hlen0 : 0 < p.length := by rw [← hpd]; simp
  have hz : p[0] = 47 := by simp only [← hpd]; exact hc
  rw [hpd] at hp HSP ⊢
  have HP := hidI hpd
  clear hpd hc
  unfold str
  have hsz : 0 < (ByteArray.mk p.toArray).size := by rw [ba_size]; exact hlen0
  have hget : (ByteArray.mk p.toArray)[0] = p[0] := rfl
  have n1 : ((p[0].toNat : Int) != 47) = false := by rw [hz]; rfl
  have q1 : ((p[0].toNat : Int) == 47) = true := by rw [hz]; rfl
  have hbyte : (p[0].toNat : Int) < 256 := by have := p[0].toNat_lt; omega
  have e0 : ¬ (2000 < (p.length : Int)) := by omega
  clear hz
  go_enter Tryd.func26, Tryd.ntmps26
  go_wp2_with fail
  clear n1 q1 hget hbyte e0
  go_loopg [4, 5, 6] (p.length - 1) (fun gk lv nv iv wr => ∃ (k : Nat) (now : List UInt8) (l : List (List UInt8)) (a : Option Addr) (c : Nat), 1 ≤ k ∧ k ≤ p.length ∧ gk = p.length - k ∧ lv = .slice a l.length c ∧ nv = .string ⟨now.toArray⟩ ∧ iv = .int .i64 k ∧ SP w p k now l (.slice a l.length c) wr)
  case atStart => exact ⟨1, [], [], none, 0, Nat.le_refl _, hlen0, rfl, rfl, rfl, rfl, World.ownsRow_nil _ _ _ _, Below.refl _ _, by simp, by simp, by simp, rfl⟩
  case round =>
    obtain ⟨k, now, l, a, c', h1k, hk, hgk, rfl, rfl, rfl, hI⟩ := hrel
    have GK := hidI hgk
    have I := hidI hI
    have hnow : now.length ≤ 4000 := by have := hI.2.2.1; omega
    have hll : l.length ≤ 2000 := by have := hI.2.2.2.1; omega
    clear hgk hI
    by_cases hlt : k < p.length
    · have hb : (p[k].toNat : Int) < 256 := by have := p[k].toNat_lt; omega
      have hszk : k < (ByteArray.mk p.toArray).size := by rw [ba_size]; exact hlt
      have hgetk : (ByteArray.mk p.toArray)[k] = p[k] := rfl
      have HDR : Hid (p.drop k = p[k] :: p.drop (k + 1)) := hidI (List.drop_eq_getElem_cons hlt)
      have w1 : (0 : Int) ≤ (k : Int) := by omega
      have w2 : (k : Int) < (p.length : Int) := by omega
      by_cases h47 : p[k] = 47
      · have m1 : ((p[k].toNat : Int) != 47) = false := by rw [h47]; rfl
        have m2 : ((p[k].toNat : Int) == 47) = true := by rw [h47]; rfl
        obtain ⟨g, cap, W', hR, ho, hg, -⟩ := run_pushS (W := wr.alloc (.cells #[.string ⟨now.toArray⟩] 9)) (B := w.heap.size) (v := .slice a l.length c') (n := l.length) (cs := l.map str) (nb := wr.heap.size) (k := ⟨now.toArray⟩) (own_bel I.out.1 (bel_alloc _ _)) (heap_alloc_new _ _) (by omega) (Nat.le_trans I.out.2.1.size (bel_alloc wr _).size) 22
        have HR := hidI hR
        obtain ⟨o1, o2⟩ := I.out.push ho hg
        have FIN : Hid (SP w p (k + 1) [] (l ++ [now]) (.slice (some ⟨g, 0, none⟩) (l ++ [now]).length cap) W') := hidI ⟨o1, o2, by simp, by simp; have := I.out.2.2.2.1; omega, by
          intro x hx
          rcases List.mem_append.1 hx with h | h
          · have := I.out.2.2.2.2.1 x h; omega
          · rw [List.mem_singleton] at h; have := I.out.2.2.1; rw [h]; omega, by rw [← I.out.2.2.2.2.2, HDR.out, h47, sp_slash]⟩
        clear h47 hR ho hg o1 o2
        go_wp2_with (at_builtin; go_must (refine Lib.wpList_append_run _ rfl _ _ _ _ rfl (.slice a l.length c') (.slice (some ⟨wr.heap.size, 0, none⟩) 1 1) rfl rfl _ _ HR.out ?_); refine Hid.out ?_)
        refine hidI ?_
        go_wp2_with fail
        go_roundg (p.length - (k + 1))
        case measure => rw [GK.out]; omega
        case rel => exact ⟨k + 1, [], l ++ [now], _, _, by omega, by omega, rfl, by simp, rfl, by go_num, FIN.out⟩
      · have m0 : p[k].toNat ≠ 47 := fun e => h47 (UInt8.toNat_inj.1 e)
        have m1 : ((p[k].toNat : Int) != 47) = true := by simp only [bne_iff_ne, ne_eq]; omega
        have m2 : ((p[k].toNat : Int) == 47) = false := by rw [beq_eq_false_iff_ne]; omega
        clear m0
        by_cases h126 : p[k] = 126
        · have n1 : ((p[k].toNat : Int) != 126) = false := by rw [h126]; rfl
          have n2 : ((p[k].toNat : Int) == 126) = true := by rw [h126]; rfl
          by_cases hl2 : k + 1 < p.length
          · have w3 : (k : Int) + 1 < (p.length : Int) := by omega
            have hszj : k + 1 < (ByteArray.mk p.toArray).size := by rw [ba_size]; exact hl2
            have hgetj : (ByteArray.mk p.toArray)[k + 1] = p[k + 1] := rfl
            have HDR2 : Hid (p.drop (k + 1) = p[k + 1] :: p.drop (k + 1 + 1)) := hidI (List.drop_eq_getElem_cons hl2)
            have hbj : (p[k + 1].toNat : Int) < 256 := by have := p[k + 1].toNat_lt; omega
            by_cases h48 : p[k + 1] = 48
            · have x1 : ((p[k + 1].toNat : Int) != 48) = false := by rw [h48]; rfl
              have x2 : ((p[k + 1].toNat : Int) == 48) = true := by rw [h48]; rfl
              have CAT : Hid (ByteArray.mk now.toArray ++ ByteArray.mk #[126] = ByteArray.mk (now ++ [126]).toArray) := hidI (cat_byte now 126)
              have FIN : Hid (SP w p (k + 2) (now ++ [126]) l (.slice a l.length c') wr) := hidI (I.out.next (by omega) (by simp; have := I.out.2.2.1; omega) (by rw [HDR.out, HDR2.out, h126, h48, sp_m0]))
              clear h47 h126 h48
              go_wp2_with fail
              go_roundg (p.length - (k + 2))
              case measure => rw [GK.out]; omega
              case rel => exact ⟨k + 2, now ++ [126], l, a, c', by omega, by omega, rfl, rfl, by rw [← CAT.out], by go_num, FIN.out⟩
            · have x0 : p[k + 1].toNat ≠ 48 := fun e => h48 (UInt8.toNat_inj.1 e)
              have x1 : ((p[k + 1].toNat : Int) != 48) = true := by simp only [bne_iff_ne, ne_eq]; omega
              have x2 : ((p[k + 1].toNat : Int) == 48) = false := by rw [beq_eq_false_iff_ne]; omega
              clear x0
              by_cases h49 : p[k + 1] = 49
              · have y1 : ((p[k + 1].toNat : Int) != 49) = false := by rw [h49]; rfl
                have y2 : ((p[k + 1].toNat : Int) == 49) = true := by rw [h49]; rfl
                have CAT : Hid (ByteArray.mk now.toArray ++ ByteArray.mk #[47] = ByteArray.mk (now ++ [47]).toArray) := hidI (cat_byte now 47)
                have FIN : Hid (SP w p (k + 2) (now ++ [47]) l (.slice a l.length c') wr) := hidI (I.out.next (by omega) (by simp; have := I.out.2.2.1; omega) (by rw [HDR.out, HDR2.out, h126, h49, sp_m1]))
                clear h47 h126 h48 h49
                go_wp2_with fail
                go_roundg (p.length - (k + 2))
                case measure => rw [GK.out]; omega
                case rel => exact ⟨k + 2, now ++ [47], l, a, c', by omega, by omega, rfl, rfl, by rw [← CAT.out], by go_num, FIN.out⟩
              · have y0 : p[k + 1].toNat ≠ 49 := fun e => h49 (UInt8.toNat_inj.1 e)
                have y1 : ((p[k + 1].toNat : Int) != 49) = true := by simp only [bne_iff_ne, ne_eq]; omega
                have y2 : ((p[k + 1].toNat : Int) == 49) = false := by rw [beq_eq_false_iff_ne]; omega
                clear y0
                have BAD : Hid (splitP p = ([], 1)) := hidI (by rw [HSP.out, ← HR1.out, ← I.out.2.2.2.2.2, HDR.out, HDR2.out, h126, sp_bad h48 h49])
                clear h47 h126 h48 h49
                go_wp2_with fail
                refine bodyPost_ret (v := .tuple #[.slice none 0 0, .int .i64 1]) (by simp [results, Tryd.results26, go_sem] <;> rfl) rfl ?_
                exact ⟨_, by rw [BAD.out], I.out.2.1, by rw [BAD.out]; exact ⟨by simp [maxLen], .inl ⟨rfl, none, rfl⟩⟩⟩
          · have hke : k + 1 = p.length := by omega
            have w3 : ¬ (k : Int) + 1 < (p.length : Int) := by omega
            have BAD : Hid (splitP p = ([], 1)) := hidI (by rw [HSP.out, ← HR1.out, ← I.out.2.2.2.2.2, HDR.out, h126, List.drop_eq_nil_of_le (by omega), sp_end])
            clear h47 h126 hke
            go_wp2_with fail
            refine bodyPost_ret (v := .tuple #[.slice none 0 0, .int .i64 1]) (by simp [results, Tryd.results26, go_sem] <;> rfl) rfl ?_
            exact ⟨_, by rw [BAD.out], I.out.2.1, by rw [BAD.out]; exact ⟨by simp [maxLen], .inl ⟨rfl, none, rfl⟩⟩⟩
        · have n0 : p[k].toNat ≠ 126 := fun e => h126 (UInt8.toNat_inj.1 e)
          have n1 : ((p[k].toNat : Int) != 126) = true := by simp only [bne_iff_ne, ne_eq]; omega
          have n2 : ((p[k].toNat : Int) == 126) = false := by rw [beq_eq_false_iff_ne]; omega
          clear n0
          have CAT : Hid (ByteArray.mk now.toArray ++ (ByteArray.mk p.toArray).extract k (k + 1) = ByteArray.mk (now ++ [p[k]]).toArray) := hidI (by rw [cut_byte p k hlt, cat_byte])
          have FIN : Hid (SP w p (k + 1) (now ++ [p[k]]) l (.slice a l.length c') wr) := hidI (I.out.next (by omega) (by simp; have := I.out.2.2.1; omega) (by rw [HDR.out, sp_char h47 h126]))
          have w4 : (k : Int) ≤ (k : Int) + 1 := by omega
          have w5 : (k : Int) + 1 ≤ (p.length : Int) := by omega
          have w6 : (k : Int) + 1 ≤ ((ByteArray.mk p.toArray).size : Int) := by rw [ba_size]; omega
          clear h47 h126
          go_wp2_with fail
          go_roundg (p.length - (k + 1))
          case measure => rw [GK.out]; omega
          case rel => exact ⟨k + 1, now ++ [p[k]], l, a, c', by omega, by omega, rfl, rfl, by rw [← CAT.out], by go_num, FIN.out⟩
    · have hke : k = p.length := by omega
      have d1 : ¬ (k : Int) < (p.length : Int) := by omega
      obtain ⟨g, cap, W', hR, ho, hg, -⟩ := run_pushS (W := wr.alloc (.cells #[.string ⟨now.toArray⟩] 9)) (B := w.heap.size) (v := .slice a l.length c') (n := l.length) (cs := l.map str) (nb := wr.heap.size) (k := ⟨now.toArray⟩) (own_bel I.out.1 (bel_alloc _ _)) (heap_alloc_new _ _) (by omega) (Nat.le_trans I.out.2.1.size (bel_alloc wr _).size) 22
      have HR := hidI hR
      obtain ⟨o1, o2⟩ := I.out.push ho hg
      have OK : Hid (splitP p = (l ++ [now], 0)) := hidI (by rw [HSP.out, ← HR1.out, ← I.out.2.2.2.2.2, hke, List.drop_length, sp_nil])
      have FIN : Hid (StrsAre W' (fun k => w.heap.size ≤ k) (l ++ [now]) (.slice (some ⟨g, 0, none⟩) (l.length + 1) cap) ∧ Below w.heap.size w W') := hidI ⟨own_strs (n := (l ++ [now]).length) rfl (by simpa using o1) (by
        intro x hx
        unfold maxLen
        rcases List.mem_append.1 hx with h | h
        · have := I.out.2.2.2.2.1 x h; omega
        · rw [List.mem_singleton] at h; rw [h]; omega) (fun _ h => h) (by simp; unfold maxLen; omega), o2⟩
      clear hke hR ho hg o1 o2
      go_wp2_with (at_builtin; go_must (refine Lib.wpList_append_run _ rfl _ _ _ _ rfl (.slice a l.length c') (.slice (some ⟨wr.heap.size, 0, none⟩) 1 1) rfl rfl _ _ HR.out ?_); refine Hid.out ?_)
      refine hidI ?_
      go_wp2_with fail
      refine bodyPost_ret (v := .tuple #[.slice (some ⟨g, 0, none⟩) (l.length + 1) cap, .int .i64 0]) (by simp [results, Tryd.results26, go_sem] <;> rfl) rfl ?_
      exact ⟨_, by rw [OK.out], FIN.out.2, by rw [OK.out]; exact FIN.out.1⟩
set_option maxRecDepth 100000 in
set_option maxHeartbeats 4000000 in
theorem rsplit_bad (w : World) (c : UInt8) (r : List UInt8) (hl : r.length + 1 ≤ 140737488351232) (hb : c ≠ 47 ∨ 2000 < (c :: r).length) :
    Calls Tryd.prog 26 #[str (c :: r)] w fun e w' => e = .returned (.tuple #[.slice none 0 0, .int .i64 1]) ∧ Below w.heap.size w w' := by
  unfold str
  have hne : (ByteArray.mk (c :: r).toArray == ByteArray.mk #[]) = false := ba_ne (by simp)
  have hsz : 0 < (ByteArray.mk (c :: r).toArray).size := by rw [ba_size]; simp
  have hget : (ByteArray.mk (c :: r).toArray)[0] = c := rfl
  have hbyte : (c.toNat : Int) < 256 := by have := c.toNat_lt; omega
  by_cases hc : c = 47
  · have n1 : ((c.toNat : Int) != 47) = false := by rw [hc]; rfl
    have q1 : ((c.toNat : Int) == 47) = true := by rw [hc]; rfl
    have e0 : 2000 < (r.length : Int) + 1 := by
      rcases hb with h | h
      · exact absurd hc h
      · simp only [List.length_cons] at h; omega
    clear hc hb
    go_enter Tryd.func26, Tryd.ntmps26
    go_wp2_with fail
    refine bodyPost_ret (v := .tuple #[.slice none 0 0, .int .i64 1]) (by simp [results, Tryd.results26, go_sem] <;> rfl) rfl ?_
    exact ⟨rfl, Below.refl _ _⟩
  · have n1 : ((c.toNat : Int) != 47) = true := by
      have : c.toNat ≠ 47 := fun e => hc (UInt8.toNat_inj.1 e)
      simp only [bne_iff_ne, ne_eq]; omega
    have q1 : ((c.toNat : Int) == 47) = false := by
      have : c.toNat ≠ 47 := fun e => hc (UInt8.toNat_inj.1 e)
      rw [beq_eq_false_iff_ne]; omega
    clear hc hb
    go_enter Tryd.func26, Tryd.ntmps26
    go_wp2_with fail
    refine bodyPost_ret (v := .tuple #[.slice none 0 0, .int .i64 1]) (by simp [results, Tryd.results26, go_sem] <;> rfl) rfl ?_
    exact ⟨rfl, Below.refl _ _⟩
set_option maxRecDepth 100000 in
set_option maxHeartbeats 4000000 in
theorem rsplit_nil (w : World) : Calls Tryd.prog 26 #[str []] w fun e w' => e = .returned (.tuple #[.slice none 0 0, .int .i64 0]) ∧ Below w.heap.size w w' := by
  unfold str
  go_enter Tryd.func26, Tryd.ntmps26
  go_wp2_with fail
  refine bodyPost_ret (v := .tuple #[.slice none 0 0, .int .i64 0]) (by simp [results, Tryd.results26, go_sem] <;> rfl) rfl ?_
  exact ⟨rfl, Below.refl _ _⟩
theorem rsplit_is (w : World) (p : List UInt8) (hp : p.length ≤ 140737488351232) :
    Calls Tryd.prog 26 #[str p] w fun e w' => ∃ v, e = .returned (.tuple #[v, .int .i64 (splitP p).2]) ∧ Below w.heap.size w w' ∧ StrsAre w' (fun k => w.heap.size ≤ k) (splitP p).1 v := by
  cases p with
  | nil =>
    refine (rsplit_nil w).mono ?_
    rintro e w' ⟨rfl, hb⟩
    exact ⟨_, rfl, hb, ⟨by simp [maxLen, splitP], .inl ⟨rfl, none, rfl⟩⟩⟩
  | cons c r =>
    by_cases h : c = 47 ∧ (c :: r).length ≤ 2000
    · exact rsplit_at w c r h.1 h.2
    · have hb : c ≠ 47 ∨ 2000 < (c :: r).length := by
        by_cases h1 : c = 47
        · exact .inr (Nat.lt_of_not_le fun h2 => h ⟨h1, h2⟩)
        · exact .inl h1
      have e : splitP (c :: r) = ([], 1) := by
        unfold splitP
        simp only
        rw [if_pos (by rcases hb with h | h; exact (by simp [h]); simp; exact .inr (.inl (by simpa using h)))]
      refine (rsplit_bad w c r (by simpa using hp) hb).mono ?_
      rintro e' w' ⟨rfl, hb'⟩
      exact ⟨_, by rw [e], hb', by rw [e]; exact ⟨by simp [maxLen], .inl ⟨rfl, none, rfl⟩⟩⟩
end Go.Proofs.YtaifciobaapehaaDoor

/- What ascii of package stairwellref does. -/
set_option linter.unusedSimpArgs false
set_option linter.unusedVariables false
namespace Go.Proofs.YtaifciobaapehaaDoor
open Go.RowKit

/- The bytes of a text, as a list of their own. -/
theorem bytes_of (w : World) (s : List UInt8) (hs : s.length ≤ 9223372036854775807) :
    ∃ cap W2, (convert 9 94 (.string ⟨s.toArray⟩)).run Tryd.prog w = .ok (.slice (some ⟨w.heap.size, 0, none⟩) s.length cap) W2 ∧ s.length ≤ cap ∧ cap ≤ 9223372036854775807 ∧
      (∀ (j : Nat) (h : j < s.length), W2.cell? ⟨w.heap.size, j, none⟩ = some (.int .u8 (s[j].toNat : Int))) ∧ ∃ os, W2 = Go.Sort.grow (w.drewN 1) os := by
  have h := run_bytes_of_string (P := Tryd.prog) w 9 94 5 ⟨s.toArray⟩ Tryd.underlying9 Tryd.underlying94 Tryd.underlying5
  have hz : (ByteArray.mk s.toArray).size = s.length := by simp [ByteArray.size]
  rw [hz] at h
  refine ⟨_, _, h, grownCap_ge _ _ _ _, grownCap_le_maxLen _ _ _ _ hs, ?_, ?_⟩
  · intro j hj
    have hb : (w.drew.alloc (.cells (bytesRow ⟨s.toArray⟩ (grownCap w s.length 0 5)) 5 ((bytesRow ⟨s.toArray⟩ (grownCap w s.length 0 5)).size, (bytesRow ⟨s.toArray⟩ (grownCap w s.length 0 5)).size + 1))).heap[w.heap.size]? = some (.cells (bytesRow ⟨s.toArray⟩ (grownCap w s.length 0 5)) 5 ((bytesRow ⟨s.toArray⟩ (grownCap w s.length 0 5)).size, (bytesRow ⟨s.toArray⟩ (grownCap w s.length 0 5)).size + 1)) := heap_alloc_new w.drew _
    have hr := bytesRow_at ⟨s.toArray⟩ (grownCap w s.length 0 5) j (by simpa using hj)
    simp only [World.cell?, hb]
    simpa using hr
  · exact ⟨_, Go.Sort.alloc_eq_grow w.drew _⟩
theorem bel_grow (w : World) (n : Nat) (os : Array Obj) : Below w.heap.size w (Go.Sort.grow (w.drewN n) os) := by
  refine ⟨rfl, rfl, rfl, by simp [Go.Sort.grow, World.drewN], fun k hk => ?_⟩
  show (w.heap ++ os)[k]? = w.heap[k]?
  rw [Array.getElem?_append_left hk]
theorem plain_eq (s : List UInt8) : plainB s = (decide (s.length ≤ 60) && s.all fun c => decide (c.toNat < 128)) := rfl

set_option maxRecDepth 100000 in
set_option maxHeartbeats 8000000 in
theorem ascii_gr (w : World) (s : List UInt8) (hs : s.length ≤ 9223372036854775807) :
    Calls Tryd.prog 68 #[str s] w fun e w' => e = .returned (.bool (plainB s)) ∧ ∃ q os, w' = Go.Sort.grow (w.drewN q) os := by
  unfold str
  obtain ⟨cap, W2, hcv, h1, h2, h3, h4⟩ := bytes_of w s hs
  have HC := hidI h3
  have HB : Hid (∃ q os, W2 = Go.Sort.grow (w.drewN q) os) := hidI ⟨1, h4⟩
  clear h3 h4
  go_enter Tryd.func68, Tryd.ntmps68
  go_wp2_with fail
  clear hcv
  go_loop [8] (fun i => ∃ k : Nat, k ≤ s.length ∧ i = .int .i64 k ∧ Hid ((s.take k).all (fun c => decide (c.toNat < 128)) = true)) (fun i => s.length - (intOf i).toNat)
  case atStart => exact ⟨0, Nat.zero_le _, rfl, hidI rfl⟩
  case round =>
    obtain ⟨k, hk, rfl, HA⟩ := hrel
    by_cases hlt : k < s.length
    · have c0 := HC.out k hlt
      have w1 : (0 : Int) ≤ (k : Int) := by omega
      have w2 : (k : Int) < (s.length : Int) := by omega
      by_cases hc : s[k].toNat < 128
      · have c1 : ¬ (127 : Int) < (s[k].toNat : Int) := by omega
        have HN : Hid ((s.take (k + 1)).all (fun c => decide (c.toNat < 128)) = true) := hidI (by
          rw [List.take_succ_eq_append_getElem hlt, List.all_append, HA.out]
          simp [hc])
        clear hc
        go_wp2_with fail
        go_round
        case rel => exact ⟨k + 1, by omega, by go_num, HN⟩
        case measure => simp [intOf]; omega
      · have c1 : (127 : Int) < (s[k].toNat : Int) := by omega
        have HF : Hid (plainB s = false) := hidI (by
          rw [plain_eq, Bool.and_eq_false_iff]
          right
          rw [List.all_eq_false]
          exact ⟨s[k], List.getElem_mem hlt, by simp; omega⟩)
        clear hc
        go_wp2_with fail
        go_ret
        exact ⟨by rw [HF.out]; rfl, HB.out⟩
    · have l1 : s.take k = s := List.take_of_length_le (by omega)
      rw [l1] at HA
      have d1 : ¬ (k : Int) < (s.length : Int) := by omega
      by_cases h60 : s.length ≤ 60
      · have h61 : (s.length : Int) ≤ 60 := by omega
        have HF : Hid (plainB s = true) := hidI (by rw [plain_eq, HA.out]; simp [h60])
        clear l1 h60
        go_wp2_with fail
        go_ret
        exact ⟨by rw [HF.out]; rfl, HB.out⟩
      · have h61 : ¬ (s.length : Int) ≤ 60 := by omega
        have HF : Hid (plainB s = false) := hidI (by rw [plain_eq]; simp [h60])
        clear l1 h60
        go_wp2_with fail
        go_ret
        exact ⟨by rw [HF.out]; rfl, HB.out⟩
theorem ascii_at (w : World) (s : List UInt8) (hs : s.length ≤ 9223372036854775807) :
    Calls Tryd.prog 68 #[str s] w fun e w' => e = .returned (.bool (plainB s)) ∧ Below w.heap.size w w' :=
  (ascii_gr w s hs).mono fun e w' ⟨h1, q, os, h2⟩ => ⟨h1, by rw [h2]; exact bel_grow w q os⟩
end Go.Proofs.YtaifciobaapehaaDoor

/- What shaped of package stairwellref does. -/
set_option linter.unusedSimpArgs false
set_option linter.unusedVariables false
namespace Go.Proofs.YtaifciobaapehaaDoor
open Go.RowKit
attribute [local go_sem ↓] Go.wp_at_zero Go.wp_at_succ

def ShpC (d : Nat) : Prop := ∀ (w : World) (ok : Nat → Prop) (t : V) (v : Value), VIs w ok d t v →
    Calls Tryd.prog 48 #[v] w fun e w' => e = .returned (.bool (shp t)) ∧ Below w.heap.size w w'
theorem shaped_five {t : V} (hk : t.kind = 5) : shapedB t = (decide (t.n = 0) && decide (t.s = []) && decide (t.keys.length = t.l.length) && riseFrom none t.keys) := by simp [shapedB, hk]

set_option maxRecDepth 100000 in
set_option maxHeartbeats 40000000 in
theorem rshaped_k0 (d : Nat) (ih : ShpC d) (w : World) (ok : Nat → Prop) (t : V) (v : Value) (h : VIs w ok (d + 1) t v) (hk : t.kind = 0) :
    Calls Tryd.prog 48 #[v] w fun e w' => e = .returned (.bool (shp t)) ∧ Below w.heap.size w w' := by
  have IH := hidI ih
  obtain ⟨a1, a2, c1, c2, rfl⟩ := h.shape
  have VV : Hid (ValsAre w ok (VIs w ok d) t.l (.slice a2 t.l.length c2) ∧ StrsAre w ok t.keys (.slice a1 t.keys.length c1) ∧ t.s.length ≤ 9223372036854775807) := hidI (by
    obtain ⟨ks, ls, e, h1, h2, h3, h4, h5⟩ := h
    simp only [Value.agg.injEq, Array.mk.injEq, List.cons.injEq, and_true] at e
    obtain ⟨-, -, -, rfl, rfl⟩ := e
    exact ⟨h5, h4, h3⟩)
  have ll : t.l.length ≤ 9223372036854775807 := VV.out.1.1
  have lk : t.keys.length ≤ 9223372036854775807 := VV.out.2.1.1
  have B1 := hidI (bel_alloc w (.cells #[.int .i64 t.kind, .int .i64 t.n, .string ⟨t.s.toArray⟩, .slice a1 t.keys.length c1, .slice a2 t.l.length c2] 25))
  have HK := hidI hk
  clear h ih hk
  go_enter Tryd.func48, Tryd.ntmps48
  go_upto_block 0 with fail
  go_cut [3] (fun b wc => b = .bool (shapedB t) ∧ BoxIs wc w.heap.size (.int .i64 t.kind) (.int .i64 t.n) (.string ⟨t.s.toArray⟩) (.slice a1 t.keys.length c1) (.slice a2 t.l.length c2) ∧ Below w.heap.size w wc)
  case first =>
    have hk := HK.out
    have g0 : (t.kind == 0) = true := by simp [hk]
    by_cases hN : t.n = 0
    · have qN : (t.n == 0) = true := by simp [hN]
      by_cases hS : t.s = []
      · have qS : (t.s == []) = true := by simp [hS]
        by_cases hK : t.keys.length = 0
        · have qK : ((t.keys.length : Int) == 0) = true := by simp [hK]
          by_cases hL : t.l.length = 0
          · have qL : ((t.l.length : Int) == 0) = true := by simp [hL]
            have HR : Hid (shapedB t = true) := hidI (by simp [shapedB, listlessB, hk, hN, hS, hK, hL])
            clear hk hN hS hK hL
            go_wp2_with fail
            go_meet
            case rel => exact ⟨by rw [HR.out], ⟨heap_alloc_new w _, B1.out⟩⟩
          · have qL : ((t.l.length : Int) == 0) = false := by rw [beq_eq_false_iff_ne]; omega
            have HR : Hid (shapedB t = false) := hidI (by simp [shapedB, listlessB, hk, hN, hS, hK, hL])
            clear hk hN hS hK hL
            go_wp2_with fail
            go_meet
            case rel => exact ⟨by rw [HR.out], ⟨heap_alloc_new w _, B1.out⟩⟩
        · have qK : ((t.keys.length : Int) == 0) = false := by rw [beq_eq_false_iff_ne]; omega
          have HR : Hid (shapedB t = false) := hidI (by simp [shapedB, listlessB, hk, hN, hS, hK])
          clear hk hN hS hK
          go_wp2_with fail
          go_meet
          case rel => exact ⟨by rw [HR.out], ⟨heap_alloc_new w _, B1.out⟩⟩
      · have qS : (t.s == []) = false := by simp [hS]
        have HR : Hid (shapedB t = false) := hidI (by simp [shapedB, listlessB, hk, hN, hS])
        clear hk hN hS
        go_wp2_with fail
        go_meet
        case rel => exact ⟨by rw [HR.out], ⟨heap_alloc_new w _, B1.out⟩⟩
    · have qN : (t.n == 0) = false := by simp [hN]
      have HR : Hid (shapedB t = false) := hidI (by simp [shapedB, listlessB, hk, hN])
      clear hk hN
      go_wp2_with fail
      go_meet
      case rel => exact ⟨by rw [HR.out], ⟨heap_alloc_new w _, B1.out⟩⟩
  case rest =>
    obtain ⟨rfl, hc⟩ := hcut
    have C0 := hidI hc
    have HSP := hidI (shp_eq t)
    obtain ⟨y0, y1, y2, y3, y4, -⟩ := hc.1.c
    obtain ⟨o0, ho0⟩ : ∃ o, shapedB t = o := ⟨_, rfl⟩
    rw [ho0]
    have O0 := hidI ho0
    clear hc ho0
    go_wp2_with fail
    go_loopg [3, 179] t.l.length (fun gk b i wr => ∃ (k : Nat), k ≤ t.l.length ∧ gk = t.l.length - k ∧ i = .int .i64 k ∧ b = .bool (o0 && shps (t.l.take k)) ∧ Below w.heap.size w wr)
    case atStart => exact ⟨0, Nat.zero_le _, rfl, rfl, by simp [shps], C0.out.2⟩
    case round =>
      obtain ⟨k, hk, hgk, rfl, rfl, hb⟩ := hrel
      have GK := hidI hgk
      have HB := hidI hb
      clear hgk hb
      by_cases hlt : k < t.l.length
      · obtain ⟨b, off, rfl, z1, z2, a5, c5, a6, c6, p0, p1, p2, p3, p4, p5⟩ := vals_at VV.out.1 hlt
        unfold maxLen at z2
        replace p0 := cell_bel HB.out p0
        replace p1 := cell_bel HB.out p1
        replace p2 := cell_bel HB.out p2
        replace p3 := cell_bel HB.out p3
        replace p4 := cell_bel HB.out p4
        have P5 := hidI (p5.bel HB.out)
        have w1 : (0 : Int) ≤ (k : Int) := by omega
        have w2 : (k : Int) < (t.l.length : Int) := by omega
        have e1 : Hid (shps (t.l.take (k + 1)) = (shps (t.l.take k) && shp t.l[k])) := hidI (by rw [take_snocV hlt, shps_snoc])
        clear p5
        cases hoo : (o0 && shps (t.l.take k)) with
        | false =>
          have HN : Hid ((o0 && shps (t.l.take (k + 1))) = false) := hidI (by rw [e1.out, ← Bool.and_assoc, hoo]; rfl)
          clear hoo
          go_wp2_with fail
          go_roundg (t.l.length - (k + 1))
          case measure => rw [GK.out]; omega
          case rel => exact ⟨k + 1, hlt, rfl, by go_num, by rw [HN.out], bel_trans HB.out (bel_alloc _ _)⟩
        | true =>
          have HN : Hid ((o0 && shps (t.l.take (k + 1))) = shp t.l[k]) := hidI (by rw [e1.out, ← Bool.and_assoc, hoo]; rfl)
          clear hoo
          go_wp2_with fail
          refine (IH.out _ ok t.l[k] _ (by exact P5.out.bel (bel_alloc _ _))).mono ?_
          rintro e w4 ⟨rfl, hb4⟩
          have HB4 := hidI (bel_trans HB.out (bel_trans (bel_alloc _ _) hb4))
          clear hb4 p0 p1 p2 p3 p4
          go_wp2_with fail
          go_roundg (t.l.length - (k + 1))
          case measure => rw [GK.out]; omega
          case rel => exact ⟨k + 1, hlt, rfl, by go_num, by rw [HN.out], HB4.out⟩
      · have l1 : t.l.take k = t.l := List.take_of_length_le (by omega)
        have d1 : ¬ (k : Int) < (t.l.length : Int) := by omega
        rw [l1]
        have HF : Hid (shp t = (o0 && shps t.l)) := hidI (by rw [HSP.out, O0.out])
        clear l1
        go_wp2_with fail
        go_ret
        exact ⟨by rw [HF.out]; rfl, HB.out⟩
set_option maxRecDepth 100000 in
set_option maxHeartbeats 40000000 in
theorem rshaped_k1 (d : Nat) (ih : ShpC d) (w : World) (ok : Nat → Prop) (t : V) (v : Value) (h : VIs w ok (d + 1) t v) (hk : t.kind = 1) :
    Calls Tryd.prog 48 #[v] w fun e w' => e = .returned (.bool (shp t)) ∧ Below w.heap.size w w' := by
  have IH := hidI ih
  obtain ⟨a1, a2, c1, c2, rfl⟩ := h.shape
  have VV : Hid (ValsAre w ok (VIs w ok d) t.l (.slice a2 t.l.length c2) ∧ StrsAre w ok t.keys (.slice a1 t.keys.length c1) ∧ t.s.length ≤ 9223372036854775807) := hidI (by
    obtain ⟨ks, ls, e, h1, h2, h3, h4, h5⟩ := h
    simp only [Value.agg.injEq, Array.mk.injEq, List.cons.injEq, and_true] at e
    obtain ⟨-, -, -, rfl, rfl⟩ := e
    exact ⟨h5, h4, h3⟩)
  have ll : t.l.length ≤ 9223372036854775807 := VV.out.1.1
  have lk : t.keys.length ≤ 9223372036854775807 := VV.out.2.1.1
  have B1 := hidI (bel_alloc w (.cells #[.int .i64 t.kind, .int .i64 t.n, .string ⟨t.s.toArray⟩, .slice a1 t.keys.length c1, .slice a2 t.l.length c2] 25))
  have HK := hidI hk
  clear h ih hk
  go_enter Tryd.func48, Tryd.ntmps48
  go_upto_block 0 with fail
  go_cut [3] (fun b wc => b = .bool (shapedB t) ∧ BoxIs wc w.heap.size (.int .i64 t.kind) (.int .i64 t.n) (.string ⟨t.s.toArray⟩) (.slice a1 t.keys.length c1) (.slice a2 t.l.length c2) ∧ Below w.heap.size w wc)
  case first =>
    have hk := HK.out
    have f0 : (t.kind == 0) = false := by simp [hk]
    have g1 : (t.kind == 1) = true := by simp [hk]
    by_cases hN : t.n = 0
    · have qN : (t.n == 0) = true := by simp [hN]
      by_cases hS : t.s = []
      · have qS : (t.s == []) = true := by simp [hS]
        by_cases hK : t.keys.length = 0
        · have qK : ((t.keys.length : Int) == 0) = true := by simp [hK]
          by_cases hL : t.l.length = 0
          · have qL : ((t.l.length : Int) == 0) = true := by simp [hL]
            have HR : Hid (shapedB t = true) := hidI (by simp [shapedB, listlessB, hk, hN, hS, hK, hL])
            clear hk hN hS hK hL
            go_wp2_with fail
            go_meet
            case rel => exact ⟨by rw [HR.out], ⟨heap_alloc_new w _, B1.out⟩⟩
          · have qL : ((t.l.length : Int) == 0) = false := by rw [beq_eq_false_iff_ne]; omega
            have HR : Hid (shapedB t = false) := hidI (by simp [shapedB, listlessB, hk, hN, hS, hK, hL])
            clear hk hN hS hK hL
            go_wp2_with fail
            go_meet
            case rel => exact ⟨by rw [HR.out], ⟨heap_alloc_new w _, B1.out⟩⟩
        · have qK : ((t.keys.length : Int) == 0) = false := by rw [beq_eq_false_iff_ne]; omega
          have HR : Hid (shapedB t = false) := hidI (by simp [shapedB, listlessB, hk, hN, hS, hK])
          clear hk hN hS hK
          go_wp2_with fail
          go_meet
          case rel => exact ⟨by rw [HR.out], ⟨heap_alloc_new w _, B1.out⟩⟩
      · have qS : (t.s == []) = false := by simp [hS]
        have HR : Hid (shapedB t = false) := hidI (by simp [shapedB, listlessB, hk, hN, hS])
        clear hk hN hS
        go_wp2_with fail
        go_meet
        case rel => exact ⟨by rw [HR.out], ⟨heap_alloc_new w _, B1.out⟩⟩
    · have qN : (t.n == 0) = false := by simp [hN]
      by_cases hO : t.n = 1
      · have qO : (t.n == 1) = true := by simp [hO]
        by_cases hS : t.s = []
        · have qS : (t.s == []) = true := by simp [hS]
          by_cases hK : t.keys.length = 0
          · have qK : ((t.keys.length : Int) == 0) = true := by simp [hK]
            by_cases hL : t.l.length = 0
            · have qL : ((t.l.length : Int) == 0) = true := by simp [hL]
              have HR : Hid (shapedB t = true) := hidI (by simp [shapedB, listlessB, hk, hN, hO, hS, hK, hL])
              clear hk hN hO hS hK hL
              go_wp2_with fail
              go_meet
              case rel => exact ⟨by rw [HR.out], ⟨heap_alloc_new w _, B1.out⟩⟩
            · have qL : ((t.l.length : Int) == 0) = false := by rw [beq_eq_false_iff_ne]; omega
              have HR : Hid (shapedB t = false) := hidI (by simp [shapedB, listlessB, hk, hN, hO, hS, hK, hL])
              clear hk hN hO hS hK hL
              go_wp2_with fail
              go_meet
              case rel => exact ⟨by rw [HR.out], ⟨heap_alloc_new w _, B1.out⟩⟩
          · have qK : ((t.keys.length : Int) == 0) = false := by rw [beq_eq_false_iff_ne]; omega
            have HR : Hid (shapedB t = false) := hidI (by simp [shapedB, listlessB, hk, hN, hO, hS, hK])
            clear hk hN hO hS hK
            go_wp2_with fail
            go_meet
            case rel => exact ⟨by rw [HR.out], ⟨heap_alloc_new w _, B1.out⟩⟩
        · have qS : (t.s == []) = false := by simp [hS]
          have HR : Hid (shapedB t = false) := hidI (by simp [shapedB, listlessB, hk, hN, hO, hS])
          clear hk hN hO hS
          go_wp2_with fail
          go_meet
          case rel => exact ⟨by rw [HR.out], ⟨heap_alloc_new w _, B1.out⟩⟩
      · have qO : (t.n == 1) = false := by simp [hO]
        have HR : Hid (shapedB t = false) := hidI (by simp [shapedB, listlessB, hk, hN, hO])
        clear hk hN hO
        go_wp2_with fail
        go_meet
        case rel => exact ⟨by rw [HR.out], ⟨heap_alloc_new w _, B1.out⟩⟩
  case rest =>
    obtain ⟨rfl, hc⟩ := hcut
    have C0 := hidI hc
    have HSP := hidI (shp_eq t)
    obtain ⟨y0, y1, y2, y3, y4, -⟩ := hc.1.c
    obtain ⟨o0, ho0⟩ : ∃ o, shapedB t = o := ⟨_, rfl⟩
    rw [ho0]
    have O0 := hidI ho0
    clear hc ho0
    go_wp2_with fail
    go_loopg [3, 179] t.l.length (fun gk b i wr => ∃ (k : Nat), k ≤ t.l.length ∧ gk = t.l.length - k ∧ i = .int .i64 k ∧ b = .bool (o0 && shps (t.l.take k)) ∧ Below w.heap.size w wr)
    case atStart => exact ⟨0, Nat.zero_le _, rfl, rfl, by simp [shps], C0.out.2⟩
    case round =>
      obtain ⟨k, hk, hgk, rfl, rfl, hb⟩ := hrel
      have GK := hidI hgk
      have HB := hidI hb
      clear hgk hb
      by_cases hlt : k < t.l.length
      · obtain ⟨b, off, rfl, z1, z2, a5, c5, a6, c6, p0, p1, p2, p3, p4, p5⟩ := vals_at VV.out.1 hlt
        unfold maxLen at z2
        replace p0 := cell_bel HB.out p0
        replace p1 := cell_bel HB.out p1
        replace p2 := cell_bel HB.out p2
        replace p3 := cell_bel HB.out p3
        replace p4 := cell_bel HB.out p4
        have P5 := hidI (p5.bel HB.out)
        have w1 : (0 : Int) ≤ (k : Int) := by omega
        have w2 : (k : Int) < (t.l.length : Int) := by omega
        have e1 : Hid (shps (t.l.take (k + 1)) = (shps (t.l.take k) && shp t.l[k])) := hidI (by rw [take_snocV hlt, shps_snoc])
        clear p5
        cases hoo : (o0 && shps (t.l.take k)) with
        | false =>
          have HN : Hid ((o0 && shps (t.l.take (k + 1))) = false) := hidI (by rw [e1.out, ← Bool.and_assoc, hoo]; rfl)
          clear hoo
          go_wp2_with fail
          go_roundg (t.l.length - (k + 1))
          case measure => rw [GK.out]; omega
          case rel => exact ⟨k + 1, hlt, rfl, by go_num, by rw [HN.out], bel_trans HB.out (bel_alloc _ _)⟩
        | true =>
          have HN : Hid ((o0 && shps (t.l.take (k + 1))) = shp t.l[k]) := hidI (by rw [e1.out, ← Bool.and_assoc, hoo]; rfl)
          clear hoo
          go_wp2_with fail
          refine (IH.out _ ok t.l[k] _ (by exact P5.out.bel (bel_alloc _ _))).mono ?_
          rintro e w4 ⟨rfl, hb4⟩
          have HB4 := hidI (bel_trans HB.out (bel_trans (bel_alloc _ _) hb4))
          clear hb4 p0 p1 p2 p3 p4
          go_wp2_with fail
          go_roundg (t.l.length - (k + 1))
          case measure => rw [GK.out]; omega
          case rel => exact ⟨k + 1, hlt, rfl, by go_num, by rw [HN.out], HB4.out⟩
      · have l1 : t.l.take k = t.l := List.take_of_length_le (by omega)
        have d1 : ¬ (k : Int) < (t.l.length : Int) := by omega
        rw [l1]
        have HF : Hid (shp t = (o0 && shps t.l)) := hidI (by rw [HSP.out, O0.out])
        clear l1
        go_wp2_with fail
        go_ret
        exact ⟨by rw [HF.out]; rfl, HB.out⟩
set_option maxRecDepth 100000 in
set_option maxHeartbeats 40000000 in
theorem rshaped_k2 (d : Nat) (ih : ShpC d) (w : World) (ok : Nat → Prop) (t : V) (v : Value) (h : VIs w ok (d + 1) t v) (hk : t.kind = 2) :
    Calls Tryd.prog 48 #[v] w fun e w' => e = .returned (.bool (shp t)) ∧ Below w.heap.size w w' := by
  have IH := hidI ih
  obtain ⟨a1, a2, c1, c2, rfl⟩ := h.shape
  have VV : Hid (ValsAre w ok (VIs w ok d) t.l (.slice a2 t.l.length c2) ∧ StrsAre w ok t.keys (.slice a1 t.keys.length c1) ∧ t.s.length ≤ 9223372036854775807) := hidI (by
    obtain ⟨ks, ls, e, h1, h2, h3, h4, h5⟩ := h
    simp only [Value.agg.injEq, Array.mk.injEq, List.cons.injEq, and_true] at e
    obtain ⟨-, -, -, rfl, rfl⟩ := e
    exact ⟨h5, h4, h3⟩)
  have ll : t.l.length ≤ 9223372036854775807 := VV.out.1.1
  have lk : t.keys.length ≤ 9223372036854775807 := VV.out.2.1.1
  have B1 := hidI (bel_alloc w (.cells #[.int .i64 t.kind, .int .i64 t.n, .string ⟨t.s.toArray⟩, .slice a1 t.keys.length c1, .slice a2 t.l.length c2] 25))
  have HK := hidI hk
  clear h ih hk
  go_enter Tryd.func48, Tryd.ntmps48
  go_upto_block 0 with fail
  go_cut [3] (fun b wc => b = .bool (shapedB t) ∧ BoxIs wc w.heap.size (.int .i64 t.kind) (.int .i64 t.n) (.string ⟨t.s.toArray⟩) (.slice a1 t.keys.length c1) (.slice a2 t.l.length c2) ∧ Below w.heap.size w wc)
  case first =>
    have hk := HK.out
    have f0 : (t.kind == 0) = false := by simp [hk]
    have f1 : (t.kind == 1) = false := by simp [hk]
    have g2 : (t.kind == 2) = true := by simp [hk]
    by_cases hA : -9007199254740992 ≤ t.n
    · have qA : -9007199254740992 ≤ t.n := by exact hA
      by_cases hB : t.n ≤ 9007199254740992
      · have qB : t.n ≤ 9007199254740992 := by exact hB
        by_cases hS : t.s = []
        · have qS : (t.s == []) = true := by simp [hS]
          by_cases hK : t.keys.length = 0
          · have qK : ((t.keys.length : Int) == 0) = true := by simp [hK]
            by_cases hL : t.l.length = 0
            · have qL : ((t.l.length : Int) == 0) = true := by simp [hL]
              have HR : Hid (shapedB t = true) := hidI (by simp [shapedB, listlessB, hk, hA, hB, hS, hK, hL])
              clear hk hA hB hS hK hL
              go_wp2_with fail
              go_meet
              case rel => exact ⟨by rw [HR.out], ⟨heap_alloc_new w _, B1.out⟩⟩
            · have qL : ((t.l.length : Int) == 0) = false := by rw [beq_eq_false_iff_ne]; omega
              have HR : Hid (shapedB t = false) := hidI (by simp [shapedB, listlessB, hk, hA, hB, hS, hK, hL])
              clear hk hA hB hS hK hL
              go_wp2_with fail
              go_meet
              case rel => exact ⟨by rw [HR.out], ⟨heap_alloc_new w _, B1.out⟩⟩
          · have qK : ((t.keys.length : Int) == 0) = false := by rw [beq_eq_false_iff_ne]; omega
            have HR : Hid (shapedB t = false) := hidI (by simp [shapedB, listlessB, hk, hA, hB, hS, hK])
            clear hk hA hB hS hK
            go_wp2_with fail
            go_meet
            case rel => exact ⟨by rw [HR.out], ⟨heap_alloc_new w _, B1.out⟩⟩
        · have qS : (t.s == []) = false := by simp [hS]
          have HR : Hid (shapedB t = false) := hidI (by simp [shapedB, listlessB, hk, hA, hB, hS])
          clear hk hA hB hS
          go_wp2_with fail
          go_meet
          case rel => exact ⟨by rw [HR.out], ⟨heap_alloc_new w _, B1.out⟩⟩
      · have qB : ¬ t.n ≤ 9007199254740992 := by exact hB
        have HR : Hid (shapedB t = false) := hidI (by simp [shapedB, listlessB, hk, hA, hB])
        clear hk hA hB
        go_wp2_with fail
        go_meet
        case rel => exact ⟨by rw [HR.out], ⟨heap_alloc_new w _, B1.out⟩⟩
    · have qA : ¬ -9007199254740992 ≤ t.n := by exact hA
      have HR : Hid (shapedB t = false) := hidI (by simp [shapedB, listlessB, hk, hA])
      clear hk hA
      go_wp2_with fail
      go_meet
      case rel => exact ⟨by rw [HR.out], ⟨heap_alloc_new w _, B1.out⟩⟩
  case rest =>
    obtain ⟨rfl, hc⟩ := hcut
    have C0 := hidI hc
    have HSP := hidI (shp_eq t)
    obtain ⟨y0, y1, y2, y3, y4, -⟩ := hc.1.c
    obtain ⟨o0, ho0⟩ : ∃ o, shapedB t = o := ⟨_, rfl⟩
    rw [ho0]
    have O0 := hidI ho0
    clear hc ho0
    go_wp2_with fail
    go_loopg [3, 179] t.l.length (fun gk b i wr => ∃ (k : Nat), k ≤ t.l.length ∧ gk = t.l.length - k ∧ i = .int .i64 k ∧ b = .bool (o0 && shps (t.l.take k)) ∧ Below w.heap.size w wr)
    case atStart => exact ⟨0, Nat.zero_le _, rfl, rfl, by simp [shps], C0.out.2⟩
    case round =>
      obtain ⟨k, hk, hgk, rfl, rfl, hb⟩ := hrel
      have GK := hidI hgk
      have HB := hidI hb
      clear hgk hb
      by_cases hlt : k < t.l.length
      · obtain ⟨b, off, rfl, z1, z2, a5, c5, a6, c6, p0, p1, p2, p3, p4, p5⟩ := vals_at VV.out.1 hlt
        unfold maxLen at z2
        replace p0 := cell_bel HB.out p0
        replace p1 := cell_bel HB.out p1
        replace p2 := cell_bel HB.out p2
        replace p3 := cell_bel HB.out p3
        replace p4 := cell_bel HB.out p4
        have P5 := hidI (p5.bel HB.out)
        have w1 : (0 : Int) ≤ (k : Int) := by omega
        have w2 : (k : Int) < (t.l.length : Int) := by omega
        have e1 : Hid (shps (t.l.take (k + 1)) = (shps (t.l.take k) && shp t.l[k])) := hidI (by rw [take_snocV hlt, shps_snoc])
        clear p5
        cases hoo : (o0 && shps (t.l.take k)) with
        | false =>
          have HN : Hid ((o0 && shps (t.l.take (k + 1))) = false) := hidI (by rw [e1.out, ← Bool.and_assoc, hoo]; rfl)
          clear hoo
          go_wp2_with fail
          go_roundg (t.l.length - (k + 1))
          case measure => rw [GK.out]; omega
          case rel => exact ⟨k + 1, hlt, rfl, by go_num, by rw [HN.out], bel_trans HB.out (bel_alloc _ _)⟩
        | true =>
          have HN : Hid ((o0 && shps (t.l.take (k + 1))) = shp t.l[k]) := hidI (by rw [e1.out, ← Bool.and_assoc, hoo]; rfl)
          clear hoo
          go_wp2_with fail
          refine (IH.out _ ok t.l[k] _ (by exact P5.out.bel (bel_alloc _ _))).mono ?_
          rintro e w4 ⟨rfl, hb4⟩
          have HB4 := hidI (bel_trans HB.out (bel_trans (bel_alloc _ _) hb4))
          clear hb4 p0 p1 p2 p3 p4
          go_wp2_with fail
          go_roundg (t.l.length - (k + 1))
          case measure => rw [GK.out]; omega
          case rel => exact ⟨k + 1, hlt, rfl, by go_num, by rw [HN.out], HB4.out⟩
      · have l1 : t.l.take k = t.l := List.take_of_length_le (by omega)
        have d1 : ¬ (k : Int) < (t.l.length : Int) := by omega
        rw [l1]
        have HF : Hid (shp t = (o0 && shps t.l)) := hidI (by rw [HSP.out, O0.out])
        clear l1
        go_wp2_with fail
        go_ret
        exact ⟨by rw [HF.out]; rfl, HB.out⟩
end Go.Proofs.YtaifciobaapehaaDoor

/- What shaped of package stairwellref does. -/
set_option linter.unusedSimpArgs false
set_option linter.unusedVariables false
namespace Go.Proofs.YtaifciobaapehaaDoor
open Go.RowKit
attribute [local go_sem ↓] Go.wp_at_zero Go.wp_at_succ

set_option maxRecDepth 100000 in
set_option maxHeartbeats 40000000 in
theorem rshaped_k3 (d : Nat) (ih : ShpC d) (w : World) (ok : Nat → Prop) (t : V) (v : Value) (h : VIs w ok (d + 1) t v) (hk : t.kind = 3) :
    Calls Tryd.prog 48 #[v] w fun e w' => e = .returned (.bool (shp t)) ∧ Below w.heap.size w w' := by
  have IH := hidI ih
  obtain ⟨a1, a2, c1, c2, rfl⟩ := h.shape
  have VV : Hid (ValsAre w ok (VIs w ok d) t.l (.slice a2 t.l.length c2) ∧ StrsAre w ok t.keys (.slice a1 t.keys.length c1) ∧ t.s.length ≤ 9223372036854775807) := hidI (by
    obtain ⟨ks, ls, e, h1, h2, h3, h4, h5⟩ := h
    simp only [Value.agg.injEq, Array.mk.injEq, List.cons.injEq, and_true] at e
    obtain ⟨-, -, -, rfl, rfl⟩ := e
    exact ⟨h5, h4, h3⟩)
  have ll : t.l.length ≤ 9223372036854775807 := VV.out.1.1
  have lk : t.keys.length ≤ 9223372036854775807 := VV.out.2.1.1
  have B1 := hidI (bel_alloc w (.cells #[.int .i64 t.kind, .int .i64 t.n, .string ⟨t.s.toArray⟩, .slice a1 t.keys.length c1, .slice a2 t.l.length c2] 25))
  have HK := hidI hk
  clear h ih hk
  go_enter Tryd.func48, Tryd.ntmps48
  go_upto_block 0 with fail
  go_cut [3] (fun b wc => b = .bool (shapedB t) ∧ BoxIs wc w.heap.size (.int .i64 t.kind) (.int .i64 t.n) (.string ⟨t.s.toArray⟩) (.slice a1 t.keys.length c1) (.slice a2 t.l.length c2) ∧ Below w.heap.size w wc)
  case first =>
    have hk := HK.out
    have f0 : (t.kind == 0) = false := by simp [hk]
    have f1 : (t.kind == 1) = false := by simp [hk]
    have f2 : (t.kind == 2) = false := by simp [hk]
    have g3 : (t.kind == 3) = true := by simp [hk]
    by_cases hN : t.n = 0
    · have qN : (t.n == 0) = true := by simp [hN]
      cases hp : plainB t.s with
      | false =>
        have HP := hidI hp
        have HR : Hid (shapedB t = false) := hidI (by simp [shapedB, listlessB, hk, hN, hp])
        clear hk hN hp
        go_wp2_with fail
        refine (ascii_at _ t.s VV.out.2.2).mono ?_
        rintro e w4 ⟨rfl, hb4⟩
        rw [HP.out]
        have K4 : Hid (BoxIs w4 w.heap.size (.int .i64 t.kind) (.int .i64 t.n) (.string ⟨t.s.toArray⟩) (.slice a1 t.keys.length c1) (.slice a2 t.l.length c2) ∧ Below w.heap.size w w4) := hidI ⟨box_bel hb4 (heap_alloc_new w _), bel_trans B1.out hb4⟩
        clear hb4
        obtain ⟨y0, y1, y2, y3, y4, -⟩ := K4.out.1.c
        go_wp2_with fail
        go_meet
        case rel => exact ⟨by rw [HR.out], K4.out⟩
      | true =>
        have HP := hidI hp
        by_cases hK : t.keys.length = 0
        · have qK : ((t.keys.length : Int) == 0) = true := by simp [hK]
          by_cases hL : t.l.length = 0
          · have qL : ((t.l.length : Int) == 0) = true := by simp [hL]
            have HR : Hid (shapedB t = true) := hidI (by simp [shapedB, listlessB, hk, hN, hp, hK, hL])
            clear hk hN hp hK hL
            go_wp2_with fail
            refine (ascii_at _ t.s VV.out.2.2).mono ?_
            rintro e w4 ⟨rfl, hb4⟩
            rw [HP.out]
            have K4 : Hid (BoxIs w4 w.heap.size (.int .i64 t.kind) (.int .i64 t.n) (.string ⟨t.s.toArray⟩) (.slice a1 t.keys.length c1) (.slice a2 t.l.length c2) ∧ Below w.heap.size w w4) := hidI ⟨box_bel hb4 (heap_alloc_new w _), bel_trans B1.out hb4⟩
            clear hb4
            obtain ⟨y0, y1, y2, y3, y4, -⟩ := K4.out.1.c
            go_wp2_with fail
            go_meet
            case rel => exact ⟨by rw [HR.out], K4.out⟩
          · have qL : ((t.l.length : Int) == 0) = false := by rw [beq_eq_false_iff_ne]; omega
            have HR : Hid (shapedB t = false) := hidI (by simp [shapedB, listlessB, hk, hN, hp, hK, hL])
            clear hk hN hp hK hL
            go_wp2_with fail
            refine (ascii_at _ t.s VV.out.2.2).mono ?_
            rintro e w4 ⟨rfl, hb4⟩
            rw [HP.out]
            have K4 : Hid (BoxIs w4 w.heap.size (.int .i64 t.kind) (.int .i64 t.n) (.string ⟨t.s.toArray⟩) (.slice a1 t.keys.length c1) (.slice a2 t.l.length c2) ∧ Below w.heap.size w w4) := hidI ⟨box_bel hb4 (heap_alloc_new w _), bel_trans B1.out hb4⟩
            clear hb4
            obtain ⟨y0, y1, y2, y3, y4, -⟩ := K4.out.1.c
            go_wp2_with fail
            go_meet
            case rel => exact ⟨by rw [HR.out], K4.out⟩
        · have qK : ((t.keys.length : Int) == 0) = false := by rw [beq_eq_false_iff_ne]; omega
          have HR : Hid (shapedB t = false) := hidI (by simp [shapedB, listlessB, hk, hN, hp, hK])
          clear hk hN hp hK
          go_wp2_with fail
          refine (ascii_at _ t.s VV.out.2.2).mono ?_
          rintro e w4 ⟨rfl, hb4⟩
          rw [HP.out]
          have K4 : Hid (BoxIs w4 w.heap.size (.int .i64 t.kind) (.int .i64 t.n) (.string ⟨t.s.toArray⟩) (.slice a1 t.keys.length c1) (.slice a2 t.l.length c2) ∧ Below w.heap.size w w4) := hidI ⟨box_bel hb4 (heap_alloc_new w _), bel_trans B1.out hb4⟩
          clear hb4
          obtain ⟨y0, y1, y2, y3, y4, -⟩ := K4.out.1.c
          go_wp2_with fail
          go_meet
          case rel => exact ⟨by rw [HR.out], K4.out⟩
    · have qN : (t.n == 0) = false := by simp [hN]
      have HR : Hid (shapedB t = false) := hidI (by simp [shapedB, listlessB, hk, hN])
      clear hk hN
      go_wp2_with fail
      go_meet
      case rel => exact ⟨by rw [HR.out], ⟨heap_alloc_new w _, B1.out⟩⟩
  case rest =>
    obtain ⟨rfl, hc⟩ := hcut
    have C0 := hidI hc
    have HSP := hidI (shp_eq t)
    obtain ⟨y0, y1, y2, y3, y4, -⟩ := hc.1.c
    obtain ⟨o0, ho0⟩ : ∃ o, shapedB t = o := ⟨_, rfl⟩
    rw [ho0]
    have O0 := hidI ho0
    clear hc ho0
    go_wp2_with fail
    go_loopg [3, 179] t.l.length (fun gk b i wr => ∃ (k : Nat), k ≤ t.l.length ∧ gk = t.l.length - k ∧ i = .int .i64 k ∧ b = .bool (o0 && shps (t.l.take k)) ∧ Below w.heap.size w wr)
    case atStart => exact ⟨0, Nat.zero_le _, rfl, rfl, by simp [shps], C0.out.2⟩
    case round =>
      obtain ⟨k, hk, hgk, rfl, rfl, hb⟩ := hrel
      have GK := hidI hgk
      have HB := hidI hb
      clear hgk hb
      by_cases hlt : k < t.l.length
      · obtain ⟨b, off, rfl, z1, z2, a5, c5, a6, c6, p0, p1, p2, p3, p4, p5⟩ := vals_at VV.out.1 hlt
        unfold maxLen at z2
        replace p0 := cell_bel HB.out p0
        replace p1 := cell_bel HB.out p1
        replace p2 := cell_bel HB.out p2
        replace p3 := cell_bel HB.out p3
        replace p4 := cell_bel HB.out p4
        have P5 := hidI (p5.bel HB.out)
        have w1 : (0 : Int) ≤ (k : Int) := by omega
        have w2 : (k : Int) < (t.l.length : Int) := by omega
        have e1 : Hid (shps (t.l.take (k + 1)) = (shps (t.l.take k) && shp t.l[k])) := hidI (by rw [take_snocV hlt, shps_snoc])
        clear p5
        cases hoo : (o0 && shps (t.l.take k)) with
        | false =>
          have HN : Hid ((o0 && shps (t.l.take (k + 1))) = false) := hidI (by rw [e1.out, ← Bool.and_assoc, hoo]; rfl)
          clear hoo
          go_wp2_with fail
          go_roundg (t.l.length - (k + 1))
          case measure => rw [GK.out]; omega
          case rel => exact ⟨k + 1, hlt, rfl, by go_num, by rw [HN.out], bel_trans HB.out (bel_alloc _ _)⟩
        | true =>
          have HN : Hid ((o0 && shps (t.l.take (k + 1))) = shp t.l[k]) := hidI (by rw [e1.out, ← Bool.and_assoc, hoo]; rfl)
          clear hoo
          go_wp2_with fail
          refine (IH.out _ ok t.l[k] _ (by exact P5.out.bel (bel_alloc _ _))).mono ?_
          rintro e w4 ⟨rfl, hb4⟩
          have HB4 := hidI (bel_trans HB.out (bel_trans (bel_alloc _ _) hb4))
          clear hb4 p0 p1 p2 p3 p4
          go_wp2_with fail
          go_roundg (t.l.length - (k + 1))
          case measure => rw [GK.out]; omega
          case rel => exact ⟨k + 1, hlt, rfl, by go_num, by rw [HN.out], HB4.out⟩
      · have l1 : t.l.take k = t.l := List.take_of_length_le (by omega)
        have d1 : ¬ (k : Int) < (t.l.length : Int) := by omega
        rw [l1]
        have HF : Hid (shp t = (o0 && shps t.l)) := hidI (by rw [HSP.out, O0.out])
        clear l1
        go_wp2_with fail
        go_ret
        exact ⟨by rw [HF.out]; rfl, HB.out⟩
set_option maxRecDepth 100000 in
set_option maxHeartbeats 40000000 in
theorem rshaped_k4 (d : Nat) (ih : ShpC d) (w : World) (ok : Nat → Prop) (t : V) (v : Value) (h : VIs w ok (d + 1) t v) (hk : t.kind = 4) :
    Calls Tryd.prog 48 #[v] w fun e w' => e = .returned (.bool (shp t)) ∧ Below w.heap.size w w' := by
  have IH := hidI ih
  obtain ⟨a1, a2, c1, c2, rfl⟩ := h.shape
  have VV : Hid (ValsAre w ok (VIs w ok d) t.l (.slice a2 t.l.length c2) ∧ StrsAre w ok t.keys (.slice a1 t.keys.length c1) ∧ t.s.length ≤ 9223372036854775807) := hidI (by
    obtain ⟨ks, ls, e, h1, h2, h3, h4, h5⟩ := h
    simp only [Value.agg.injEq, Array.mk.injEq, List.cons.injEq, and_true] at e
    obtain ⟨-, -, -, rfl, rfl⟩ := e
    exact ⟨h5, h4, h3⟩)
  have ll : t.l.length ≤ 9223372036854775807 := VV.out.1.1
  have lk : t.keys.length ≤ 9223372036854775807 := VV.out.2.1.1
  have B1 := hidI (bel_alloc w (.cells #[.int .i64 t.kind, .int .i64 t.n, .string ⟨t.s.toArray⟩, .slice a1 t.keys.length c1, .slice a2 t.l.length c2] 25))
  have HK := hidI hk
  clear h ih hk
  go_enter Tryd.func48, Tryd.ntmps48
  go_upto_block 0 with fail
  go_cut [3] (fun b wc => b = .bool (shapedB t) ∧ BoxIs wc w.heap.size (.int .i64 t.kind) (.int .i64 t.n) (.string ⟨t.s.toArray⟩) (.slice a1 t.keys.length c1) (.slice a2 t.l.length c2) ∧ Below w.heap.size w wc)
  case first =>
    have hk := HK.out
    have f0 : (t.kind == 0) = false := by simp [hk]
    have f1 : (t.kind == 1) = false := by simp [hk]
    have f2 : (t.kind == 2) = false := by simp [hk]
    have f3 : (t.kind == 3) = false := by simp [hk]
    have g4 : (t.kind == 4) = true := by simp [hk]
    by_cases hN : t.n = 0
    · have qN : (t.n == 0) = true := by simp [hN]
      by_cases hS : t.s = []
      · have qS : (t.s == []) = true := by simp [hS]
        by_cases hK : t.keys.length = 0
        · have qK : ((t.keys.length : Int) == 0) = true := by simp [hK]
          have HR : Hid (shapedB t = true) := hidI (by simp [shapedB, listlessB, hk, hN, hS, hK])
          clear hk hN hS hK
          go_wp2_with fail
          go_meet
          case rel => exact ⟨by rw [HR.out], ⟨heap_alloc_new w _, B1.out⟩⟩
        · have qK : ((t.keys.length : Int) == 0) = false := by rw [beq_eq_false_iff_ne]; omega
          have HR : Hid (shapedB t = false) := hidI (by simp [shapedB, listlessB, hk, hN, hS, hK])
          clear hk hN hS hK
          go_wp2_with fail
          go_meet
          case rel => exact ⟨by rw [HR.out], ⟨heap_alloc_new w _, B1.out⟩⟩
      · have qS : (t.s == []) = false := by simp [hS]
        have HR : Hid (shapedB t = false) := hidI (by simp [shapedB, listlessB, hk, hN, hS])
        clear hk hN hS
        go_wp2_with fail
        go_meet
        case rel => exact ⟨by rw [HR.out], ⟨heap_alloc_new w _, B1.out⟩⟩
    · have qN : (t.n == 0) = false := by simp [hN]
      have HR : Hid (shapedB t = false) := hidI (by simp [shapedB, listlessB, hk, hN])
      clear hk hN
      go_wp2_with fail
      go_meet
      case rel => exact ⟨by rw [HR.out], ⟨heap_alloc_new w _, B1.out⟩⟩
  case rest =>
    obtain ⟨rfl, hc⟩ := hcut
    have C0 := hidI hc
    have HSP := hidI (shp_eq t)
    obtain ⟨y0, y1, y2, y3, y4, -⟩ := hc.1.c
    obtain ⟨o0, ho0⟩ : ∃ o, shapedB t = o := ⟨_, rfl⟩
    rw [ho0]
    have O0 := hidI ho0
    clear hc ho0
    go_wp2_with fail
    go_loopg [3, 179] t.l.length (fun gk b i wr => ∃ (k : Nat), k ≤ t.l.length ∧ gk = t.l.length - k ∧ i = .int .i64 k ∧ b = .bool (o0 && shps (t.l.take k)) ∧ Below w.heap.size w wr)
    case atStart => exact ⟨0, Nat.zero_le _, rfl, rfl, by simp [shps], C0.out.2⟩
    case round =>
      obtain ⟨k, hk, hgk, rfl, rfl, hb⟩ := hrel
      have GK := hidI hgk
      have HB := hidI hb
      clear hgk hb
      by_cases hlt : k < t.l.length
      · obtain ⟨b, off, rfl, z1, z2, a5, c5, a6, c6, p0, p1, p2, p3, p4, p5⟩ := vals_at VV.out.1 hlt
        unfold maxLen at z2
        replace p0 := cell_bel HB.out p0
        replace p1 := cell_bel HB.out p1
        replace p2 := cell_bel HB.out p2
        replace p3 := cell_bel HB.out p3
        replace p4 := cell_bel HB.out p4
        have P5 := hidI (p5.bel HB.out)
        have w1 : (0 : Int) ≤ (k : Int) := by omega
        have w2 : (k : Int) < (t.l.length : Int) := by omega
        have e1 : Hid (shps (t.l.take (k + 1)) = (shps (t.l.take k) && shp t.l[k])) := hidI (by rw [take_snocV hlt, shps_snoc])
        clear p5
        cases hoo : (o0 && shps (t.l.take k)) with
        | false =>
          have HN : Hid ((o0 && shps (t.l.take (k + 1))) = false) := hidI (by rw [e1.out, ← Bool.and_assoc, hoo]; rfl)
          clear hoo
          go_wp2_with fail
          go_roundg (t.l.length - (k + 1))
          case measure => rw [GK.out]; omega
          case rel => exact ⟨k + 1, hlt, rfl, by go_num, by rw [HN.out], bel_trans HB.out (bel_alloc _ _)⟩
        | true =>
          have HN : Hid ((o0 && shps (t.l.take (k + 1))) = shp t.l[k]) := hidI (by rw [e1.out, ← Bool.and_assoc, hoo]; rfl)
          clear hoo
          go_wp2_with fail
          refine (IH.out _ ok t.l[k] _ (by exact P5.out.bel (bel_alloc _ _))).mono ?_
          rintro e w4 ⟨rfl, hb4⟩
          have HB4 := hidI (bel_trans HB.out (bel_trans (bel_alloc _ _) hb4))
          clear hb4 p0 p1 p2 p3 p4
          go_wp2_with fail
          go_roundg (t.l.length - (k + 1))
          case measure => rw [GK.out]; omega
          case rel => exact ⟨k + 1, hlt, rfl, by go_num, by rw [HN.out], HB4.out⟩
      · have l1 : t.l.take k = t.l := List.take_of_length_le (by omega)
        have d1 : ¬ (k : Int) < (t.l.length : Int) := by omega
        rw [l1]
        have HF : Hid (shp t = (o0 && shps t.l)) := hidI (by rw [HSP.out, O0.out])
        clear l1
        go_wp2_with fail
        go_ret
        exact ⟨by rw [HF.out]; rfl, HB.out⟩
set_option maxRecDepth 100000 in
set_option maxHeartbeats 40000000 in
theorem rshaped_k6 (d : Nat) (ih : ShpC d) (w : World) (ok : Nat → Prop) (t : V) (v : Value) (h : VIs w ok (d + 1) t v) (hk : t.kind ≠ 0 ∧ t.kind ≠ 1 ∧ t.kind ≠ 2 ∧ t.kind ≠ 3 ∧ t.kind ≠ 4 ∧ t.kind ≠ 5) :
    Calls Tryd.prog 48 #[v] w fun e w' => e = .returned (.bool (shp t)) ∧ Below w.heap.size w w' := by
  have IH := hidI ih
  obtain ⟨a1, a2, c1, c2, rfl⟩ := h.shape
  have VV : Hid (ValsAre w ok (VIs w ok d) t.l (.slice a2 t.l.length c2) ∧ StrsAre w ok t.keys (.slice a1 t.keys.length c1) ∧ t.s.length ≤ 9223372036854775807) := hidI (by
    obtain ⟨ks, ls, e, h1, h2, h3, h4, h5⟩ := h
    simp only [Value.agg.injEq, Array.mk.injEq, List.cons.injEq, and_true] at e
    obtain ⟨-, -, -, rfl, rfl⟩ := e
    exact ⟨h5, h4, h3⟩)
  have ll : t.l.length ≤ 9223372036854775807 := VV.out.1.1
  have lk : t.keys.length ≤ 9223372036854775807 := VV.out.2.1.1
  have B1 := hidI (bel_alloc w (.cells #[.int .i64 t.kind, .int .i64 t.n, .string ⟨t.s.toArray⟩, .slice a1 t.keys.length c1, .slice a2 t.l.length c2] 25))
  have HK := hidI hk
  clear h ih hk
  go_enter Tryd.func48, Tryd.ntmps48
  go_upto_block 0 with fail
  go_cut [3] (fun b wc => b = .bool (shapedB t) ∧ BoxIs wc w.heap.size (.int .i64 t.kind) (.int .i64 t.n) (.string ⟨t.s.toArray⟩) (.slice a1 t.keys.length c1) (.slice a2 t.l.length c2) ∧ Below w.heap.size w wc)
  case first =>
    have hk := HK.out
    obtain ⟨n0, n1, n2, n3, n4, n5⟩ := hk
    have f0 : (t.kind == 0) = false := by rw [beq_eq_false_iff_ne]; exact n0
    have f1 : (t.kind == 1) = false := by rw [beq_eq_false_iff_ne]; exact n1
    have f2 : (t.kind == 2) = false := by rw [beq_eq_false_iff_ne]; exact n2
    have f3 : (t.kind == 3) = false := by rw [beq_eq_false_iff_ne]; exact n3
    have f4 : (t.kind == 4) = false := by rw [beq_eq_false_iff_ne]; exact n4
    have f5 : (t.kind == 5) = false := by rw [beq_eq_false_iff_ne]; exact n5
    have HR : Hid (shapedB t = false) := hidI (by simp [shapedB, n0, n1, n2, n3, n4, n5])
    clear n0 n1 n2 n3 n4 n5
    go_wp2_with fail
    go_meet
    case rel => exact ⟨by rw [HR.out], heap_alloc_new w _, B1.out⟩
  case rest =>
    obtain ⟨rfl, hc⟩ := hcut
    have C0 := hidI hc
    have HSP := hidI (shp_eq t)
    obtain ⟨y0, y1, y2, y3, y4, -⟩ := hc.1.c
    obtain ⟨o0, ho0⟩ : ∃ o, shapedB t = o := ⟨_, rfl⟩
    rw [ho0]
    have O0 := hidI ho0
    clear hc ho0
    go_wp2_with fail
    go_loopg [3, 179] t.l.length (fun gk b i wr => ∃ (k : Nat), k ≤ t.l.length ∧ gk = t.l.length - k ∧ i = .int .i64 k ∧ b = .bool (o0 && shps (t.l.take k)) ∧ Below w.heap.size w wr)
    case atStart => exact ⟨0, Nat.zero_le _, rfl, rfl, by simp [shps], C0.out.2⟩
    case round =>
      obtain ⟨k, hk, hgk, rfl, rfl, hb⟩ := hrel
      have GK := hidI hgk
      have HB := hidI hb
      clear hgk hb
      by_cases hlt : k < t.l.length
      · obtain ⟨b, off, rfl, z1, z2, a5, c5, a6, c6, p0, p1, p2, p3, p4, p5⟩ := vals_at VV.out.1 hlt
        unfold maxLen at z2
        replace p0 := cell_bel HB.out p0
        replace p1 := cell_bel HB.out p1
        replace p2 := cell_bel HB.out p2
        replace p3 := cell_bel HB.out p3
        replace p4 := cell_bel HB.out p4
        have P5 := hidI (p5.bel HB.out)
        have w1 : (0 : Int) ≤ (k : Int) := by omega
        have w2 : (k : Int) < (t.l.length : Int) := by omega
        have e1 : Hid (shps (t.l.take (k + 1)) = (shps (t.l.take k) && shp t.l[k])) := hidI (by rw [take_snocV hlt, shps_snoc])
        clear p5
        cases hoo : (o0 && shps (t.l.take k)) with
        | false =>
          have HN : Hid ((o0 && shps (t.l.take (k + 1))) = false) := hidI (by rw [e1.out, ← Bool.and_assoc, hoo]; rfl)
          clear hoo
          go_wp2_with fail
          go_roundg (t.l.length - (k + 1))
          case measure => rw [GK.out]; omega
          case rel => exact ⟨k + 1, hlt, rfl, by go_num, by rw [HN.out], bel_trans HB.out (bel_alloc _ _)⟩
        | true =>
          have HN : Hid ((o0 && shps (t.l.take (k + 1))) = shp t.l[k]) := hidI (by rw [e1.out, ← Bool.and_assoc, hoo]; rfl)
          clear hoo
          go_wp2_with fail
          refine (IH.out _ ok t.l[k] _ (by exact P5.out.bel (bel_alloc _ _))).mono ?_
          rintro e w4 ⟨rfl, hb4⟩
          have HB4 := hidI (bel_trans HB.out (bel_trans (bel_alloc _ _) hb4))
          clear hb4 p0 p1 p2 p3 p4
          go_wp2_with fail
          go_roundg (t.l.length - (k + 1))
          case measure => rw [GK.out]; omega
          case rel => exact ⟨k + 1, hlt, rfl, by go_num, by rw [HN.out], HB4.out⟩
      · have l1 : t.l.take k = t.l := List.take_of_length_le (by omega)
        have d1 : ¬ (k : Int) < (t.l.length : Int) := by omega
        rw [l1]
        have HF : Hid (shp t = (o0 && shps t.l)) := hidI (by rw [HSP.out, O0.out])
        clear l1
        go_wp2_with fail
        go_ret
        exact ⟨by rw [HF.out]; rfl, HB.out⟩
end Go.Proofs.YtaifciobaapehaaDoor

/- What shaped of package stairwellref does. -/
set_option linter.unusedSimpArgs false
set_option linter.unusedVariables false
namespace Go.Proofs.YtaifciobaapehaaDoor
open Go.RowKit
attribute [local go_sem ↓] Go.wp_at_zero Go.wp_at_succ

set_option maxRecDepth 100000 in
set_option maxHeartbeats 40000000 in
theorem rshaped_k5 (d : Nat) (ih : ShpC d) (w : World) (ok : Nat → Prop) (t : V) (v : Value) (h : VIs w ok (d + 1) t v) (hk : t.kind = 5) :
    Calls Tryd.prog 48 #[v] w fun e w' => e = .returned (.bool (shp t)) ∧ Below w.heap.size w w' := by
  have IH := hidI ih
  obtain ⟨a1, a2, c1, c2, rfl⟩ := h.shape
  have VV : Hid (ValsAre w ok (VIs w ok d) t.l (.slice a2 t.l.length c2) ∧ StrsAre w ok t.keys (.slice a1 t.keys.length c1) ∧ t.s.length ≤ 9223372036854775807) := hidI (by
    obtain ⟨ks, ls, e, h1, h2, h3, h4, h5⟩ := h
    simp only [Value.agg.injEq, Array.mk.injEq, List.cons.injEq, and_true] at e
    obtain ⟨-, -, -, rfl, rfl⟩ := e
    exact ⟨h5, h4, h3⟩)
  have ll : t.l.length ≤ 9223372036854775807 := VV.out.1.1
  have lk : t.keys.length ≤ 9223372036854775807 := VV.out.2.1.1
  have B1 := hidI (bel_alloc w (.cells #[.int .i64 t.kind, .int .i64 t.n, .string ⟨t.s.toArray⟩, .slice a1 t.keys.length c1, .slice a2 t.l.length c2] 25))
  have HK := hidI hk
  clear h ih hk
  go_enter Tryd.func48, Tryd.ntmps48
  go_upto_block 0 with fail
  go_cut [3] (fun b wc => b = .bool (shapedB t) ∧ BoxIs wc w.heap.size (.int .i64 t.kind) (.int .i64 t.n) (.string ⟨t.s.toArray⟩) (.slice a1 t.keys.length c1) (.slice a2 t.l.length c2) ∧ Below w.heap.size w wc)
  case first =>
    have hk := HK.out
    have f0 : (t.kind == 0) = false := by simp [hk]
    have f1 : (t.kind == 1) = false := by simp [hk]
    have f2 : (t.kind == 2) = false := by simp [hk]
    have f3 : (t.kind == 3) = false := by simp [hk]
    have f4 : (t.kind == 4) = false := by simp [hk]
    have g5 : (t.kind == 5) = true := by simp [hk]
    obtain ⟨o5, ho5⟩ : ∃ o, (decide (t.n = 0) && decide (t.s = []) && decide (t.keys.length = t.l.length)) = o := ⟨_, rfl⟩
    have S5 : Hid (shapedB t = (o5 && riseFrom none t.keys)) := hidI (by rw [shaped_five hk, ho5])
    have O5 := hidI ho5
    clear hk ho5
    go_upto_region 14 with fail
    go_cut [3] (fun b wc => b = .bool o5 ∧ BoxIs wc w.heap.size (.int .i64 t.kind) (.int .i64 t.n) (.string ⟨t.s.toArray⟩) (.slice a1 t.keys.length c1) (.slice a2 t.l.length c2) ∧ Below w.heap.size w wc)
    case first =>
      by_cases hN : t.n = 0
      · have qN : (t.n == 0) = true := by simp [hN]
        by_cases hS : t.s = []
        · have qS : (t.s == []) = true := by simp [hS]
          by_cases hM : t.keys.length = t.l.length
          · have qM : ((t.keys.length : Int) == (t.l.length : Int)) = true := by simp [hM]
            have HR : Hid (o5 = true) := hidI (by rw [← O5.out]; simp [hN, hS, hM])
            clear hN hS hM
            go_wp2_with fail
            go_meet
            case rel => exact ⟨by rw [HR.out], heap_alloc_new w _, B1.out⟩
          · have qM : ((t.keys.length : Int) == (t.l.length : Int)) = false := by rw [beq_eq_false_iff_ne]; omega
            have HR : Hid (o5 = false) := hidI (by rw [← O5.out]; simp [hN, hS, hM])
            clear hN hS hM
            go_wp2_with fail
            go_meet
            case rel => exact ⟨by rw [HR.out], heap_alloc_new w _, B1.out⟩
        · have qS : (t.s == []) = false := by simp [hS]
          have HR : Hid (o5 = false) := hidI (by rw [← O5.out]; simp [hN, hS])
          clear hN hS
          go_wp2_with fail
          go_meet
          case rel => exact ⟨by rw [HR.out], heap_alloc_new w _, B1.out⟩
      · have qN : (t.n == 0) = false := by simp [hN]
        have HR : Hid (o5 = false) := hidI (by rw [← O5.out]; simp [hN])
        clear hN
        go_wp2_with fail
        go_meet
        case rel => exact ⟨by rw [HR.out], heap_alloc_new w _, B1.out⟩
    case rest =>
      obtain ⟨rfl, hc⟩ := hcut
      have C0 := hidI hc
      obtain ⟨y0, y1, y2, y3, y4, -⟩ := hc.1.c
      clear hc
      go_wp2_with fail
      go_loopg [3, 145] t.keys.length (fun gk b i wr => ∃ (k : Nat) (o : Bool), k ≤ t.keys.length ∧ gk = t.keys.length - k ∧ i = .int .i64 k ∧ b = .bool o ∧ Hid (shapedB t = (o && riseFrom (prevAt t.keys k) (t.keys.drop k))) ∧ BoxIs wr w.heap.size (.int .i64 t.kind) (.int .i64 t.n) (.string ⟨t.s.toArray⟩) (.slice a1 t.keys.length c1) (.slice a2 t.l.length c2) ∧ Below w.heap.size w wr)
      case atStart => exact ⟨0, o5, Nat.zero_le _, rfl, rfl, rfl, hidI S5.out, C0.out⟩
      case round =>
        obtain ⟨k, o, hk, hgk, rfl, rfl, HS, hc⟩ := hrel
        have GK := hidI hgk
        have CC := hidI hc
        obtain ⟨y0, y1, y2, y3, y4, -⟩ := hc.1.c
        clear hgk hc
        by_cases hlt : k < t.keys.length
        · have w1 : (0 : Int) ≤ (k : Int) := by omega
          have w2 : (k : Int) < (t.keys.length : Int) := by omega
          have ST := hidI (riseFrom_step hlt)
          cases o with
          | false =>
            have HN : Hid (shapedB t = (false && riseFrom (prevAt t.keys (k + 1)) (t.keys.drop (k + 1)))) := hidI (by rw [HS.out]; rfl)
            clear HS ST
            go_wp2_with fail
            go_quiet (fail)
            all_goals
              go_wp2_with fail
              go_roundg (t.keys.length - (k + 1))
              case measure => rw [GK.out]; omega
              case rel => exact ⟨k + 1, false, hlt, rfl, by go_num, rfl, HN, by first | exact CC.out | exact ⟨box_bel (bel_drewN _ _) CC.out.1, bel_trans CC.out.2 (bel_drewN _ _)⟩ | exact ⟨box_bel (show Below wr.heap.size wr wr.drew from (Below.refl _ wr).drew) CC.out.1, bel_trans CC.out.2 (show Below wr.heap.size wr wr.drew from (Below.refl _ wr).drew)⟩⟩
          | true =>
            obtain ⟨kb, ko, rfl, z1, z2, hc1⟩ := strs_at VV.out.2.1 hlt
            unfold maxLen at z2
            have hcell := cell_bel CC.out.2 hc1
            have KLn : Hid (t.keys[k].length ≤ 9223372036854775807) := hidI (by
              rcases VV.out.2.1.2 with ⟨e, _⟩ | ⟨b, off, c', e, h1, h2, hcs⟩
              · rw [e] at hlt; simp at hlt
              · exact (hcs k t.keys[k] (List.getElem?_eq_getElem hlt)).1)
            have CALL : Hid (∀ (o : Bool), plainB t.keys[k] = o → ∀ (n : Nat) (os : Array Obj), Calls Tryd.prog 68 #[.string ⟨t.keys[k].toArray⟩] (Go.Sort.grow (wr.drewN n) os) fun e w'' => e = .returned (.bool o) ∧ ∃ p : GrownBy, w'' = Go.Sort.grow (wr.drewN p.n) p.os) := hidI (fun o ho n os => Calls.grown_of ((ascii_gr _ t.keys[k] KLn.out).mono fun e w4 h => ⟨by rw [← ho]; exact h.1, h.2⟩))
            have hmix : Tryd.prog.follows .mixedOrders = true := by kernel_rfl
            have s0 : ∀ n os, (Go.Sort.grow (wr.drewN n) os).cell? ⟨w.heap.size, 3, none⟩ = some (.slice (some ⟨kb, ko, none⟩) t.keys.length c1) := cell_grown CC.out.1.lt CC.out.1.c.2.2.2.1
            have s1 : ∀ n os, (Go.Sort.grow (wr.drewN n) os).cell? ⟨kb, ko + k, none⟩ = some (.string ⟨t.keys[k].toArray⟩) := cell_grown (World.block_lt_of_cell? wr _ hcell) hcell
            clear hc1
            cases hpl : plainB t.keys[k] with
            | false =>
              have HPL := hidI hpl
              have HN : Hid (shapedB t = (false && riseFrom (prevAt t.keys (k + 1)) (t.keys.drop (k + 1)))) := hidI (by rw [HS.out, ST.out, hpl]; rfl)
              clear hpl HS ST
              go_wp2_with fail
              refine wp_region_quiet_grown (by assumption) (by kernel_rfl) ?_
              repeat (first | go_big_quiet_step ((go_at_call 68; exact CALL.out _ HPL.out _ _)) | quiet_step ((go_at_call 68; exact CALL.out _ HPL.out _ _)))
              refine wpQuiet_nil ?_
              intro _ hw'
              obtain ⟨⟨nq, osq⟩, hw''⟩ := hw'
              subst hw''
              all_goals
                go_wp2_with fail
                go_roundg (t.keys.length - (k + 1))
                case measure => rw [GK.out]; omega
                case rel => exact ⟨k + 1, false, hlt, rfl, by go_num, rfl, HN, box_bel (bel_grow _ _ _) CC.out.1, bel_trans CC.out.2 (bel_grow _ _ _)⟩
            | true =>
              have HPL := hidI hpl
              clear hpl
              by_cases hk0 : k = 0
              · have e9 : ((k : Int) == 0) = true := by simp [hk0]
                have HN : Hid (shapedB t = (true && riseFrom (prevAt t.keys (k + 1)) (t.keys.drop (k + 1)))) := hidI (by rw [HS.out, ST.out, HPL.out, show prevAt t.keys k = none by simp [prevAt, hk0]]; rfl)
                clear HS ST hk0
                go_wp2_with fail
                refine wp_region_quiet_grown (by assumption) (by kernel_rfl) ?_
                repeat (first | go_big_quiet_step ((go_at_call 68; exact CALL.out _ HPL.out _ _)) | quiet_step ((go_at_call 68; exact CALL.out _ HPL.out _ _)))
                refine wpQuiet_nil ?_
                intro _ hw'
                obtain ⟨⟨nq, osq⟩, hw''⟩ := hw'
                subst hw''
                go_wp2_with fail
                go_roundg (t.keys.length - (k + 1))
                case measure => rw [GK.out]; omega
                case rel => exact ⟨k + 1, true, hlt, rfl, by go_num, rfl, HN, box_bel (bel_grow _ _ _) CC.out.1, bel_trans CC.out.2 (bel_grow _ _ _)⟩
              · have e9 : ((k : Int) == 0) = false := by rw [beq_eq_false_iff_ne]; omega
                obtain ⟨j, hj9⟩ : ∃ j, k = j + 1 := ⟨k - 1, by omega⟩
                have hj : j < t.keys.length := by omega
                obtain ⟨kb', ko', hke, -, -, hc2⟩ := strs_at VV.out.2.1 hj
                simp only [Option.some.injEq, Addr.mk.injEq, and_true] at hke
                obtain ⟨rfl, rfl⟩ := hke
                have hcell2 := cell_bel CC.out.2 hc2
                have j1 : (k : Int) - 1 = (j : Int) := by omega
                have j2 : (j : Int) < (t.keys.length : Int) := by omega
                have j3 : (0 : Int) ≤ (j : Int) := by omega
                have Z : Hid (prevAt t.keys k = some t.keys[j]) := hidI (by simp [prevAt, hk0, show k - 1 = j by omega, List.getElem?_eq_getElem hj])
                have s2 : ∀ n os, (Go.Sort.grow (wr.drewN n) os).cell? ⟨kb, ko + j, none⟩ = some (.string ⟨t.keys[j].toArray⟩) := cell_grown (World.block_lt_of_cell? wr _ hcell2) hcell2
                clear hc2 hk0 hj9
                cases hbl : Op.bytesLess t.keys[j] t.keys[k] with
                | true =>
                  have HN : Hid (shapedB t = (true && riseFrom (prevAt t.keys (k + 1)) (t.keys.drop (k + 1)))) := hidI (by rw [HS.out, ST.out, HPL.out, Z.out]; simp only [hbl]; rfl)
                  clear HS ST Z
                  go_wp2_with fail
                  refine wp_region_quiet_grown (by assumption) (by kernel_rfl) ?_
                  repeat (first | go_big_quiet_step ((go_at_call 68; exact CALL.out _ HPL.out _ _)) | quiet_step ((go_at_call 68; exact CALL.out _ HPL.out _ _)))
                  refine wpQuiet_nil ?_
                  intro _ hw'
                  obtain ⟨⟨nq, osq⟩, hw''⟩ := hw'
                  subst hw''
                  go_wp2_with fail
                  go_roundg (t.keys.length - (k + 1))
                  case measure => rw [GK.out]; omega
                  case rel => exact ⟨k + 1, true, hlt, rfl, by go_num, rfl, HN, box_bel (bel_grow _ _ _) CC.out.1, bel_trans CC.out.2 (bel_grow _ _ _)⟩
                | false =>
                  have HN : Hid (shapedB t = (false && riseFrom (prevAt t.keys (k + 1)) (t.keys.drop (k + 1)))) := hidI (by rw [HS.out, ST.out, HPL.out, Z.out]; simp only [hbl]; rfl)
                  clear HS ST Z
                  go_wp2_with fail
                  refine wp_region_quiet_grown (by assumption) (by kernel_rfl) ?_
                  repeat (first | go_big_quiet_step ((go_at_call 68; exact CALL.out _ HPL.out _ _)) | quiet_step ((go_at_call 68; exact CALL.out _ HPL.out _ _)))
                  refine wpQuiet_nil ?_
                  intro _ hw'
                  obtain ⟨⟨nq, osq⟩, hw''⟩ := hw'
                  subst hw''
                  go_wp2_with fail
                  go_roundg (t.keys.length - (k + 1))
                  case measure => rw [GK.out]; omega
                  case rel => exact ⟨k + 1, false, hlt, rfl, by go_num, rfl, HN, box_bel (bel_grow _ _ _) CC.out.1, bel_trans CC.out.2 (bel_grow _ _ _)⟩
        · have l1 : t.keys.drop k = [] := List.drop_eq_nil_of_le (by omega)
          have HN : Hid (shapedB t = o) := hidI (by rw [HS.out, l1]; simp [riseFrom])
          have d1 : ¬ (k : Int) < (t.keys.length : Int) := by omega
          clear l1
          go_wp2_with fail
          go_meet
          case rel => exact ⟨by rw [HN.out], CC.out⟩
  case rest =>
    obtain ⟨rfl, hc⟩ := hcut
    have C0 := hidI hc
    have HSP := hidI (shp_eq t)
    obtain ⟨y0, y1, y2, y3, y4, -⟩ := hc.1.c
    obtain ⟨o0, ho0⟩ : ∃ o, shapedB t = o := ⟨_, rfl⟩
    rw [ho0]
    have O0 := hidI ho0
    clear hc ho0
    go_wp2_with fail
    go_loopg [3, 179] t.l.length (fun gk b i wr => ∃ (k : Nat), k ≤ t.l.length ∧ gk = t.l.length - k ∧ i = .int .i64 k ∧ b = .bool (o0 && shps (t.l.take k)) ∧ Below w.heap.size w wr)
    case atStart => exact ⟨0, Nat.zero_le _, rfl, rfl, by simp [shps], C0.out.2⟩
    case round =>
      obtain ⟨k, hk, hgk, rfl, rfl, hb⟩ := hrel
      have GK := hidI hgk
      have HB := hidI hb
      clear hgk hb
      by_cases hlt : k < t.l.length
      · obtain ⟨b, off, rfl, z1, z2, a5, c5, a6, c6, p0, p1, p2, p3, p4, p5⟩ := vals_at VV.out.1 hlt
        unfold maxLen at z2
        replace p0 := cell_bel HB.out p0
        replace p1 := cell_bel HB.out p1
        replace p2 := cell_bel HB.out p2
        replace p3 := cell_bel HB.out p3
        replace p4 := cell_bel HB.out p4
        have P5 := hidI (p5.bel HB.out)
        have w1 : (0 : Int) ≤ (k : Int) := by omega
        have w2 : (k : Int) < (t.l.length : Int) := by omega
        have e1 : Hid (shps (t.l.take (k + 1)) = (shps (t.l.take k) && shp t.l[k])) := hidI (by rw [take_snocV hlt, shps_snoc])
        clear p5
        cases hoo : (o0 && shps (t.l.take k)) with
        | false =>
          have HN : Hid ((o0 && shps (t.l.take (k + 1))) = false) := hidI (by rw [e1.out, ← Bool.and_assoc, hoo]; rfl)
          clear hoo
          go_wp2_with fail
          go_roundg (t.l.length - (k + 1))
          case measure => rw [GK.out]; omega
          case rel => exact ⟨k + 1, hlt, rfl, by go_num, by rw [HN.out], bel_trans HB.out (bel_alloc _ _)⟩
        | true =>
          have HN : Hid ((o0 && shps (t.l.take (k + 1))) = shp t.l[k]) := hidI (by rw [e1.out, ← Bool.and_assoc, hoo]; rfl)
          clear hoo
          go_wp2_with fail
          refine (IH.out _ ok t.l[k] _ (by exact P5.out.bel (bel_alloc _ _))).mono ?_
          rintro e w4 ⟨rfl, hb4⟩
          have HB4 := hidI (bel_trans HB.out (bel_trans (bel_alloc _ _) hb4))
          clear hb4 p0 p1 p2 p3 p4
          go_wp2_with fail
          go_roundg (t.l.length - (k + 1))
          case measure => rw [GK.out]; omega
          case rel => exact ⟨k + 1, hlt, rfl, by go_num, by rw [HN.out], HB4.out⟩
      · have l1 : t.l.take k = t.l := List.take_of_length_le (by omega)
        have d1 : ¬ (k : Int) < (t.l.length : Int) := by omega
        rw [l1]
        have HF : Hid (shp t = (o0 && shps t.l)) := hidI (by rw [HSP.out, O0.out])
        clear l1
        go_wp2_with fail
        go_ret
        exact ⟨by rw [HF.out]; rfl, HB.out⟩
end Go.Proofs.YtaifciobaapehaaDoor

/- What shaped of package stairwellref does, of every kind. -/
set_option linter.unusedSimpArgs false
set_option linter.unusedVariables false
namespace Go.Proofs.YtaifciobaapehaaDoor
open Go.RowKit

theorem rshaped_all (d : Nat) : ShpC d := by
  induction d with
  | zero => exact fun _ _ _ _ h => h.elim
  | succ d ih =>
    intro w ok t v h
    by_cases h0 : t.kind = 0
    · exact rshaped_k0 d ih w ok t v h h0
    by_cases h1 : t.kind = 1
    · exact rshaped_k1 d ih w ok t v h h1
    by_cases h2 : t.kind = 2
    · exact rshaped_k2 d ih w ok t v h h2
    by_cases h3 : t.kind = 3
    · exact rshaped_k3 d ih w ok t v h h3
    by_cases h4 : t.kind = 4
    · exact rshaped_k4 d ih w ok t v h h4
    by_cases h5 : t.kind = 5
    · exact rshaped_k5 d ih w ok t v h h5
    exact rshaped_k6 d ih w ok t v h ⟨h0, h1, h2, h3, h4, h5⟩
end Go.Proofs.YtaifciobaapehaaDoor

/- What depthOf and ascii of package stairwellref do. -/
set_option linter.unusedSimpArgs false
set_option linter.unusedVariables false
namespace Go.Proofs.YtaifciobaapehaaDoor
open Go.RowKit

def DptC (d : Nat) : Prop := ∀ (w : World) (ok : Nat → Prop) (t : V) (v : Value), VIs w ok d t v → cnt t ≤ 1000000000000000 →
    Calls Tryd.prog 47 #[v] w fun e w' => e = .returned (.tuple #[.int .i64 (dpt t : Int), .int .i64 (cnt t : Int)]) ∧ Below w.heap.size w w'

set_option maxRecDepth 100000 in
set_option maxHeartbeats 8000000 in
theorem depthOf_succ (d : Nat) (ih : DptC d) : DptC (d + 1) := by
  intro w ok t v h hN
  have IH := hidI ih
  have H := hidI (h.is : In w ok t v)
  obtain ⟨a1, a2, c1, c2, rfl⟩ := h.shape
  have VV : Hid (ValsAre w ok (VIs w ok d) t.l (.slice a2 t.l.length c2)) := hidI (by
    obtain ⟨ks, ls, e, h1, h2, h3, h4, h5⟩ := h
    simp only [Value.agg.injEq, Array.mk.injEq, List.cons.injEq, and_true] at e
    obtain ⟨-, -, -, -, rfl⟩ := e
    exact h5)
  have ll : t.l.length ≤ 9223372036854775807 := VV.out.1
  have B1 := hidI (bel_alloc w (.cells #[.int .i64 t.kind, .int .i64 t.n, .string ⟨t.s.toArray⟩, .slice a1 t.keys.length c1, .slice a2 t.l.length c2] 25))
  have HC := hidI (cnt_eq t)
  have HDT := hidI (dpt_eq t)
  have HN := hidI hN
  clear h ih hN
  go_enter Tryd.func47, Tryd.ntmps47
  go_wp2_with fail
  go_loopg [4, 5, 13] t.l.length (fun gk dd n i wr => ∃ k : Nat, k ≤ t.l.length ∧ gk = t.l.length - k ∧ i = .int .i64 k ∧ dd = .int .i64 (dpts (t.l.take k) : Int) ∧ n = .int .i64 ((1 + cnts (t.l.take k) : Nat) : Int) ∧ Below w.heap.size w wr)
  case atStart => exact ⟨0, Nat.zero_le _, rfl, rfl, rfl, rfl, B1.out⟩
  case round =>
    obtain ⟨k, hk, hgk, rfl, rfl, rfl, hb⟩ := hrel
    have GK := hidI hgk
    have HB := hidI hb
    have q1 := cnts_take (xs := t.l) k
    have q2 := dpts_cnt (t.l.take k)
    have q3 : cnts t.l ≤ 1000000000000000 := by have := HC.out; have := HN.out; omega
    clear hgk hb
    by_cases hlt : k < t.l.length
    · obtain ⟨b, off, rfl, z1, z2, a5, c5, a6, c6, p0, p1, p2, p3, p4, p5⟩ := vals_at VV.out hlt
      unfold maxLen at z2
      replace p0 := cell_bel HB.out p0
      replace p1 := cell_bel HB.out p1
      replace p2 := cell_bel HB.out p2
      replace p3 := cell_bel HB.out p3
      replace p4 := cell_bel HB.out p4
      have P5 := hidI (p5.bel HB.out)
      have w1 : (0 : Int) ≤ (k : Int) := by omega
      have w2 : (k : Int) < (t.l.length : Int) := by omega
      have hx := cnts_mem (List.getElem_mem hlt)
      have hxd := dpt_cnt t.l[k]
      have hxn : cnt t.l[k] ≤ 1000000000000000 := by omega
      have e1 : Hid (dpts (t.l.take (k + 1)) = max (dpts (t.l.take k)) (dpt t.l[k])) := hidI (by rw [take_snocV hlt, dpts_snoc])
      have e2 : Hid (cnts (t.l.take (k + 1)) = cnts (t.l.take k) + cnt t.l[k]) := hidI (by rw [take_snocV hlt, cnts_snoc])
      have q4 := cnts_take (xs := t.l) (k + 1)
      have q5 : cnts (t.l.take k) + cnt t.l[k] ≤ 1000000000000000 := by have := e2.out; omega
      clear p5 q4
      obtain ⟨x, hxe⟩ : ∃ x, dpt t.l[k] = x := ⟨_, rfl⟩
      obtain ⟨m, hme⟩ : ∃ m, cnt t.l[k] = m := ⟨_, rfl⟩
      obtain ⟨dd, hdd⟩ : ∃ m, dpts (t.l.take k) = m := ⟨_, rfl⟩
      obtain ⟨nn, hnn⟩ : ∃ m, cnts (t.l.take k) = m := ⟨_, rfl⟩
      rw [hme] at q5 hx hxn hxd
      rw [hxe] at hxd
      rw [hdd] at q2 ⊢
      rw [hnn] at q1 q2 q5 ⊢
      have X1 := hidI hxe
      have X2 := hidI hme
      have X3 := hidI hdd
      have X4 := hidI hnn
      have XN := hidI hxn
      clear hxe hme hdd hnn hxn
      go_wp2_with fail
      refine (IH.out _ ok t.l[k] _ (by exact P5.out.bel (bel_alloc _ _)) (by rw [X2.out]; exact XN.out)).mono ?_
      rintro e w4 ⟨rfl, hb4⟩
      rw [X1.out, X2.out]
      have HB4 := hidI (bel_trans HB.out (bel_trans (bel_alloc _ _) hb4))
      clear hb4 p0 p1 p2 p3 p4
      by_cases hmx : dd ≤ x
      · have m1 : max (dd : Int) (x : Int) = (x : Int) := by omega
        go_wp2_with fail
        go_roundg (t.l.length - (k + 1))
        case measure => rw [GK.out]; omega
        case rel => exact ⟨k + 1, hlt, rfl, by go_num, by rw [e1.out, X1.out, X3.out, Nat.max_eq_right hmx], by rw [e2.out, X2.out, X4.out]; go_num, HB4.out⟩
      · have m1 : max (dd : Int) (x : Int) = (dd : Int) := by omega
        go_wp2_with fail
        go_roundg (t.l.length - (k + 1))
        case measure => rw [GK.out]; omega
        case rel => exact ⟨k + 1, hlt, rfl, by go_num, by rw [e1.out, X1.out, X3.out, Nat.max_eq_left (by omega)], by rw [e2.out, X2.out, X4.out]; go_num, HB4.out⟩
    · have l1 : t.l.take k = t.l := List.take_of_length_le (by omega)
      have d1 : ¬ (k : Int) < (t.l.length : Int) := by omega
      rw [l1] at q2 q1 ⊢
      have F1 : Hid (((dpts t.l : Int) + 1) = (dpt t : Int)) := hidI (by rw [HDT.out]; omega)
      have F2 : Hid (((1 + cnts t.l : Nat) : Int) = (cnt t : Int)) := hidI (by rw [HC.out])
      clear l1
      go_wp2_with fail
      go_ret2
      exact ⟨by rw [← F1.out, ← F2.out]; rfl, HB.out⟩
theorem depthOf_all (d : Nat) : DptC d := by
  induction d with
  | zero => exact fun _ _ _ _ h => h.elim
  | succ d ih => exact depthOf_succ d ih
theorem depthOf_is (w : World) (ok : Nat → Prop) (t : V) (v : Value) (h : In w ok t v) (hN : cnt t ≤ 1000000000000000) :
    Calls Tryd.prog 47 #[v] w fun e w' => e = .returned (.tuple #[.int .i64 (dpt t : Int), .int .i64 (cnt t : Int)]) ∧ Below w.heap.size w w' := by
  obtain ⟨d, h⟩ := h; exact depthOf_all d w ok t v h hN
end Go.Proofs.YtaifciobaapehaaDoor

/- What GoodValue of package stairwellref answers: what Good answers. -/
set_option linter.unusedSimpArgs false
set_option linter.unusedVariables false
namespace Go.Proofs.YtaifciobaapehaaDoor
open Go.RowKit

theorem rshaped_is (w : World) (ok : Nat → Prop) (t : V) (v : Value) (h : In w ok t v) :
    Calls Tryd.prog 48 #[v] w fun e w' => e = .returned (.bool (shp t)) ∧ Below w.heap.size w w' := by
  obtain ⟨d, h⟩ := h; exact rshaped_all d w ok t v h
set_option maxRecDepth 100000 in
set_option maxHeartbeats 8000000 in
theorem rgood_is (w : World) (ok : Nat → Prop) (t : V) (v : Value) (h : In w ok t v) (hN : cnt t ≤ 1000000000000000) :
    Calls Tryd.prog 27 #[v] w fun e w' => e = .returned (.bool (goodV t)) ∧ Below w.heap.size w w' := by
  have H := hidI h
  have HG := hidI (good_ref t)
  have hd := dpt_cnt t
  obtain ⟨a1, a2, c1, c2, rfl⟩ := h.form
  clear h
  have HN := hidI hN
  obtain ⟨x, hx⟩ : ∃ x, dpt t = x := ⟨_, rfl⟩
  obtain ⟨m, hm⟩ : ∃ m, cnt t = m := ⟨_, rfl⟩
  rw [hm] at hd hN
  rw [hx] at hd
  have X := hidI hx
  have M := hidI hm
  clear hx hm
  go_enter Tryd.func27, Tryd.ntmps27
  go_wp2_with fail
  refine (depthOf_is _ ok t _ (by exact H.out.bel (bel_alloc _ _)) HN.out).mono ?_
  rintro e w1 ⟨rfl, hb1⟩
  rw [X.out, M.out]
  have K1 : Hid (BoxIs w1 w.heap.size (.int .i64 t.kind) (.int .i64 t.n) (.string ⟨t.s.toArray⟩) (.slice a1 t.keys.length c1) (.slice a2 t.l.length c2) ∧ Below w.heap.size w w1) := hidI ⟨box_bel hb1 (heap_alloc_new w _), bel_trans (bel_alloc _ _) hb1⟩
  clear hb1
  obtain ⟨y0, y1, y2, y3, y4, -⟩ := K1.out.1.c
  by_cases h1 : x ≤ 12
  · have q1 : (x : Int) ≤ 12 := by omega
    by_cases h2 : m ≤ 120
    · have q2 : (m : Int) ≤ 120 := by omega
      have HR : Hid (goodV t = shp t) := hidI (by rw [← HG.out, X.out, M.out]; simp [h1, h2])
      clear h1 h2
      go_wp2_with fail
      refine (rshaped_is _ ok t _ (by exact H.out.bel K1.out.2)).mono ?_
      rintro e w2 ⟨rfl, hb2⟩
      have B2 := hidI (bel_trans K1.out.2 hb2)
      clear hb2
      go_wp2_with fail
      go_ret
      exact ⟨by rw [HR.out]; rfl, B2.out⟩
    · have q2 : ¬ (m : Int) ≤ 120 := by omega
      have HR : Hid (goodV t = false) := hidI (by rw [← HG.out, X.out, M.out]; simp [h2])
      clear h1 h2
      go_wp2_with fail
      go_ret
      exact ⟨by rw [HR.out]; rfl, K1.out.2⟩
  · have q1 : ¬ (x : Int) ≤ 12 := by omega
    have HR : Hid (goodV t = false) := hidI (by rw [← HG.out, X.out, M.out]; simp [h1])
    clear h1
    go_wp2_with fail
    go_ret
    exact ⟨by rw [HR.out]; rfl, K1.out.2⟩
end Go.Proofs.YtaifciobaapehaaDoor

/- What GetAt of package stairwellref does. -/
set_option linter.unusedSimpArgs false
set_option linter.unusedVariables false
namespace Go.Proofs.YtaifciobaapehaaDoor
open Go.RowKit

theorem split_code (p : List UInt8) : (splitP p).2 = 0 ∨ (splitP p).2 = 1 := by
  unfold splitP
  split
  · exact .inl rfl
  · split
    · exact .inr rfl
    · exact .inl rfl
def GetK (w : World) (ok : Nat → Prop) (t : V) (ns : List (List UInt8)) (na : Option Addr) (nc k : Nat) (wr : World) : Prop :=
  ∃ (y : V) (a5 a6 : Option Addr) (c5 c6 : Nat), Nice y ∧ getV ns t = getV (ns.drop k) y ∧ BoxIs wr w.heap.size (.int .i64 y.kind) (.int .i64 y.n) (.string ⟨y.s.toArray⟩) (.slice a5 y.keys.length c5) (.slice a6 y.l.length c6) ∧ BoxIs wr (w.heap.size + 1) (.int .i64 0) (.int .i64 0) (.string ⟨#[]⟩) (.slice none 0 0) (.slice none 0 0) ∧ Below w.heap.size w wr ∧
    In wr (fun k => ok k ∧ k < w.heap.size) y (.agg #[.int .i64 y.kind, .int .i64 y.n, .string ⟨y.s.toArray⟩, .slice a5 y.keys.length c5, .slice a6 y.l.length c6]) ∧ StrsAre wr (fun k => w.heap.size + 2 ≤ k) ns (.slice na ns.length nc)

set_option maxRecDepth 100000 in
set_option maxHeartbeats 40000000 in
theorem rget_is (w : World) (ok : Nat → Prop) (t : V) (v : Value) (p : List UInt8) (h : In w ok t v) (hp : p.length ≤ 140737488351232) (hN : cnt t ≤ 1000000000000000) :
    Calls Tryd.prog 8 #[v, str p] w fun e w' => ∃ r, e = .returned (.tuple #[r, .int .i64 (getR (splitP p) t).2]) ∧ Below w.heap.size w w' ∧ In w' ok (getR (splitP p) t).1 r := by
  have H := hidI h.low
  have HN := hidI hN
  obtain ⟨l1, l2, l3⟩ := h.lens
  obtain ⟨a1, a2, c1, c2, rfl⟩ := h.form
  clear h hN
  go_enter Tryd.func8, Tryd.ntmps8
  go_wp2_with fail
  refine (rsplit_is _ p hp).mono ?_
  rintro e w1 ⟨nv, rfl, hb1, hns⟩
  obtain ⟨ns, hn1⟩ : ∃ ns, (splitP p).1 = ns := ⟨_, rfl⟩
  obtain ⟨ee, hn2⟩ : ∃ ee, (splitP p).2 = ee := ⟨_, rfl⟩
  have SC := hidI (split_code p)
  rw [hn2] at SC ⊢
  rw [hn1] at hns
  have hsp : splitP p = (ns, ee) := by rw [← hn1, ← hn2]
  clear hn1 hn2
  obtain ⟨na, nc, rfl⟩ := hns.form
  have SP := hidI hsp
  have nlen := hns.1
  unfold maxLen at nlen
  have K1 : Hid (BoxIs w1 w.heap.size (.int .i64 t.kind) (.int .i64 t.n) (.string ⟨t.s.toArray⟩) (.slice a1 t.keys.length c1) (.slice a2 t.l.length c2) ∧ BoxIs w1 (w.heap.size + 1) (.int .i64 0) (.int .i64 0) (.string ⟨#[]⟩) (.slice none 0 0) (.slice none 0 0) ∧ Below w.heap.size w w1 ∧ StrsAre w1 (fun k => w.heap.size + 2 ≤ k) ns (.slice na ns.length nc)) := ⟨box_bel hb1 (h2a w _ _), box_bel hb1 (h2b w _ _), bel_trans (bel_trans (bel_alloc _ _) (bel_alloc _ _)) hb1, hns.imp fun a x hx hc => ⟨by simpa using hx, hc⟩⟩
  clear hb1 hns hsp
  by_cases he : ee = 0
  · subst he
    obtain ⟨p0, p1, p2, p3, p4, -⟩ := K1.out.1.c
    go_wp2_with fail
    refine (rgood_is _ (fun k => ok k ∧ k < w.heap.size) t _ (by exact H.out.bel K1.out.2.2.1) HN.out).mono ?_
    rintro e w2 ⟨rfl, hb2⟩
    have K2 : Hid (BoxIs w2 w.heap.size (.int .i64 t.kind) (.int .i64 t.n) (.string ⟨t.s.toArray⟩) (.slice a1 t.keys.length c1) (.slice a2 t.l.length c2) ∧ BoxIs w2 (w.heap.size + 1) (.int .i64 0) (.int .i64 0) (.string ⟨#[]⟩) (.slice none 0 0) (.slice none 0 0) ∧ Below w.heap.size w w2 ∧ StrsAre w2 (fun k => w.heap.size + 2 ≤ k) ns (.slice na ns.length nc)) := ⟨box_bel hb2 K1.out.1, box_bel hb2 K1.out.2.1, bel_trans K1.out.2.2.1 hb2, K1.out.2.2.2.bel hb2⟩
    clear hb2 p0 p1 p2 p3 p4 K1
    cases hg : goodV t with
    | false =>
      obtain ⟨x0, x1, x2, x3, x4, y0, y1, y2, y3, y4⟩ := (K2.out.2.1).c
      have Z := hidI (bel_set5 K2.out.2.2.1 (Nat.le_succ w.heap.size) (.int .i64 0) (.int .i64 0) (.string ⟨#[]⟩) (.slice none 0 0) (.slice none 0 0))
      have ZB := hidI ((K2.out.2.1).set (.int .i64 0) (.int .i64 0) (.string ⟨#[]⟩) (.slice none 0 0) (.slice none 0 0))
      have HA : Hid (getR (splitP p) t = (zeroT, 1)) := hidI (by rw [SP.out]; unfold getR; rw [if_neg (by simp), if_pos hg])
      clear hg
      go_wp2_with fail
      obtain ⟨z0, z1, z2, z3, z4, -⟩ := ZB.out.c
      refine bodyPost_ret (v := .tuple #[.agg #[.int .i64 0, .int .i64 0, .string ⟨#[]⟩, .slice none 0 0, .slice none 0 0], .int .i64 1]) ?_ rfl ?_
      · simp only [set5] at z0 z1 z2 z3 z4
        simp [results, Tryd.results8, go_sem, z0, z1, z2, z3, z4]
      · refine ⟨_, by rw [HA.out], Z.out, ?_⟩
        rw [HA.out]
        exact in_zero _ _
    | true =>
      have HG := hidI hg
      clear hg
      have S0 : Hid (GetK w ok t ns na nc 0 w2) := ⟨t, a1, a2, c1, c2, nice_of HG.out, rfl, K2.out.1, K2.out.2.1, K2.out.2.2.1, H.out.bel K2.out.2.2.1, K2.out.2.2.2⟩
      clear K2
      go_wp2_with fail
      go_loopg [26] ns.length (fun gk i wr => ∃ k : Nat, k ≤ ns.length ∧ gk = ns.length - k ∧ i = .int .i64 k ∧ GetK w ok t ns na nc k wr)
      case atStart => exact ⟨0, Nat.zero_le _, rfl, rfl, S0.out⟩
      case round =>
        obtain ⟨k, hk, hgk, rfl, y, a5, a6, c5, c6, iN, i1, i2, i3, i4, i5, i6⟩ := hrel
        have GK := hidI hgk
        have NY := hidI iN
        have I : Hid (getV ns t = getV (ns.drop k) y ∧ BoxIs wr w.heap.size (.int .i64 y.kind) (.int .i64 y.n) (.string ⟨y.s.toArray⟩) (.slice a5 y.keys.length c5) (.slice a6 y.l.length c6) ∧ BoxIs wr (w.heap.size + 1) (.int .i64 0) (.int .i64 0) (.string ⟨#[]⟩) (.slice none 0 0) (.slice none 0 0) ∧ Below w.heap.size w wr ∧ In wr (fun k => ok k ∧ k < w.heap.size) y (.agg #[.int .i64 y.kind, .int .i64 y.n, .string ⟨y.s.toArray⟩, .slice a5 y.keys.length c5, .slice a6 y.l.length c6]) ∧ StrsAre wr (fun k => w.heap.size + 2 ≤ k) ns (.slice na ns.length nc)) := ⟨i1, i2, i3, i4, i5, i6⟩
        obtain ⟨p0, p1, p2, p3, p4, p5, p6, p7, p8, p9⟩ := i2.c
        clear hgk iN i1 i2 i3 i4 i5 i6
        by_cases hlt : k < ns.length
        · obtain ⟨nb, no, rfl, hc1, hc2, hc⟩ := strs_cells I.out.2.2.2.2.2 hlt
          unfold maxLen at hc2
          have hsl : ns[k].length ≤ 9223372036854775807 := I.out.2.2.2.2.2.mem _ (List.getElem_mem _)
          go_wp2_with fail
          refine (rkid_is _ (fun k => ok k ∧ k < w.heap.size) y _ ns[k] (by exact I.out.2.2.2.2.1) (fun h5 => by have := nice_paired NY.out h5; simp only [pairedV, Bool.and_eq_true, decide_eq_true_eq] at this; omega)).mono ?_
          rintro e w3 ⟨rfl, hb3⟩
          have K3 : Hid (BoxIs w3 w.heap.size (.int .i64 y.kind) (.int .i64 y.n) (.string ⟨y.s.toArray⟩) (.slice a5 y.keys.length c5) (.slice a6 y.l.length c6) ∧ BoxIs w3 (w.heap.size + 1) (.int .i64 0) (.int .i64 0) (.string ⟨#[]⟩) (.slice none 0 0) (.slice none 0 0) ∧ Below w.heap.size w w3 ∧ In w3 (fun k => ok k ∧ k < w.heap.size) y (.agg #[.int .i64 y.kind, .int .i64 y.n, .string ⟨y.s.toArray⟩, .slice a5 y.keys.length c5, .slice a6 y.l.length c6]) ∧ StrsAre w3 (fun k => w.heap.size + 2 ≤ k) ns (.slice (some ⟨nb, no, none⟩) ns.length nc)) := ⟨box_bel hb3 I.out.2.1, box_bel hb3 I.out.2.2.1, bel_trans I.out.2.2.2.1 hb3, I.out.2.2.2.2.1.bel hb3, I.out.2.2.2.2.2.bel hb3⟩
          have GS : Hid (getV (ns.drop k) y = ((atV y ns[k]).bind fun i => y.l[i]?).bind (getV (ns.drop (k + 1)))) := hidI (by rw [List.drop_eq_getElem_cons hlt, getV, meant_at])
          clear hb3 hc p0 p1 p2 p3 p4 p5 p6 p7 p8 p9
          cases hm : atV y ns[k] with
          | none =>
            obtain ⟨x0, x1, x2, x3, x4, y0, y1, y2, y3, y4⟩ := (K3.out.2.1).c
            have Z := hidI (bel_set5 K3.out.2.2.1 (Nat.le_succ w.heap.size) (.int .i64 0) (.int .i64 0) (.string ⟨#[]⟩) (.slice none 0 0) (.slice none 0 0))
            have ZB := hidI ((K3.out.2.1).set (.int .i64 0) (.int .i64 0) (.string ⟨#[]⟩) (.slice none 0 0) (.slice none 0 0))
            have HA : Hid (getR (splitP p) t = (zeroT, 3)) := hidI (by rw [SP.out]; unfold getR; rw [if_neg (by simp), if_neg (by simp [HG.out]), I.out.1, GS.out, hm]; rfl)
            have eo : optI none = -1 := rfl
            rw [eo]
            clear hm eo
            go_wp2_with fail
            obtain ⟨z0, z1, z2, z3, z4, -⟩ := ZB.out.c
            refine bodyPost_ret (v := .tuple #[.agg #[.int .i64 0, .int .i64 0, .string ⟨#[]⟩, .slice none 0 0, .slice none 0 0], .int .i64 3]) ?_ rfl ?_
            · simp only [set5] at z0 z1 z2 z3 z4
              simp [results, Tryd.results8, go_sem, z0, z1, z2, z3, z4]
            · refine ⟨_, by rw [HA.out], Z.out, ?_⟩
              rw [HA.out]
              exact in_zero _ _
          | some i =>
            have hi : i < y.l.length := at_lt hm
            obtain ⟨u, hu⟩ : ∃ u, y.l[i] = u := ⟨_, rfl⟩
            obtain ⟨xb, xo, b5, d5, b6, d6, rfl, j3, j4, g0, g1, g2, g3, g4, g5⟩ := K3.out.2.2.2.1.item hi
            rw [hu] at g0 g1 g2 g3 g4 g5
            have NU : Hid (Nice u) := hidI (nice_mem NY.out (by rw [← hu]; exact List.getElem_mem hi))
            have GU : Hid (getV ns t = getV (ns.drop (k + 1)) u) := hidI (by rw [I.out.1, GS.out, hm]; simp [List.getElem?_eq_getElem hi, hu])
            obtain ⟨o0, o1, o2, o3, o4, o5, o6, o7, o8, o9⟩ := K3.out.1.c
            have FIN : Hid (GetK w ok t ns (some ⟨nb, no, none⟩) nc (k + 1) (set5 w3 w.heap.size (.int .i64 u.kind) (.int .i64 u.n) (.string ⟨u.s.toArray⟩) (.slice b5 u.keys.length d5) (.slice b6 u.l.length d6))) := hidI (by
              have g1 := set5_gb w3 w.heap.size (.int .i64 u.kind) (.int .i64 u.n) (.string ⟨u.s.toArray⟩) (.slice b5 u.keys.length d5) (.slice b6 u.l.length d6)
              exact ⟨u, b5, b6, d5, d6, NU.out, GU.out, K3.out.1.set _ _ _ _ _, K3.out.2.1.grown g1 (by simp), bel_set5 K3.out.2.2.1 (Nat.le_refl _) _ _ _ _ _, g5.grown g1 (fun k hk => by omega), K3.out.2.2.2.2.imp (cells_grown g1 (fun k hk e => by cases e; omega))⟩)
            have eo : optI (some i) = (i : Int) := rfl
            rw [eo]
            have v1 : ¬ (i : Int) < 0 := by omega
            have v2 : (0 : Int) ≤ (i : Int) := by omega
            have v3 : (i : Int) < (y.l.length : Int) := by omega
            clear hm eo hu g5
            go_wp2_with fail
            go_roundg (ns.length - (k + 1))
            case measure => rw [GK.out]; omega
            case rel => exact ⟨k + 1, hlt, rfl, by go_num, FIN.out⟩
        · have hke : k = ns.length := by omega
          subst hke
          obtain ⟨x0, x1, x2, x3, x4, y0, y1, y2, y3, y4⟩ := I.out.2.2.1.c
          have Z := hidI (bel_set5 I.out.2.2.2.1 (Nat.le_succ w.heap.size) (.int .i64 y.kind) (.int .i64 y.n) (.string ⟨y.s.toArray⟩) (.slice a5 y.keys.length c5) (.slice a6 y.l.length c6))
          have ZI := hidI ((I.out.2.2.2.2.1.grown (set5_gb wr (w.heap.size + 1) (.int .i64 y.kind) (.int .i64 y.n) (.string ⟨y.s.toArray⟩) (.slice a5 y.keys.length c5) (.slice a6 y.l.length c6)) (fun k hk => by omega)).weak fun k hk => hk.1)
          have ZB := hidI (I.out.2.2.1.set (.int .i64 y.kind) (.int .i64 y.n) (.string ⟨y.s.toArray⟩) (.slice a5 y.keys.length c5) (.slice a6 y.l.length c6))
          have HA : Hid (getR (splitP p) t = (y, 0)) := hidI (by rw [SP.out]; refine get_ok rfl HG.out ?_; rw [I.out.1, List.drop_length]; rfl)
          go_wp2_with fail
          obtain ⟨z0, z1, z2, z3, z4, -⟩ := ZB.out.c
          refine bodyPost_ret (v := .tuple #[.agg #[.int .i64 y.kind, .int .i64 y.n, .string ⟨y.s.toArray⟩, .slice a5 y.keys.length c5, .slice a6 y.l.length c6], .int .i64 0]) ?_ rfl ?_
          · simp only [set5] at z0 z1 z2 z3 z4
            simp [results, Tryd.results8, go_sem, z0, z1, z2, z3, z4]
          · refine ⟨_, by rw [HA.out], Z.out, ?_⟩
            rw [HA.out]
            exact ZI.out
  · have e1 : (ee != 0) = true := by rw [bne_iff_ne]; exact he
    have e2 : (ee == 0) = false := by rw [beq_eq_false_iff_ne]; exact he
    have HE := hidI he
    have h1 : ee = 1 := by rcases SC.out with h | h; exact absurd h he; exact h
    clear he
    subst h1
    obtain ⟨x0, x1, x2, x3, x4, y0, y1, y2, y3, y4⟩ := (K1.out.2.1).c
    have Z := hidI (bel_set5 K1.out.2.2.1 (Nat.le_succ w.heap.size) (.int .i64 0) (.int .i64 0) (.string ⟨#[]⟩) (.slice none 0 0) (.slice none 0 0))
    have ZB := hidI ((K1.out.2.1).set (.int .i64 0) (.int .i64 0) (.string ⟨#[]⟩) (.slice none 0 0) (.slice none 0 0))
    have HA : Hid (getR (splitP p) t = (zeroT, 1)) := hidI (by rw [SP.out]; unfold getR; rw [if_pos HE.out])
    clear K1
    go_wp2_with fail
    obtain ⟨z0, z1, z2, z3, z4, -⟩ := ZB.out.c
    refine bodyPost_ret (v := .tuple #[.agg #[.int .i64 0, .int .i64 0, .string ⟨#[]⟩, .slice none 0 0, .slice none 0 0], .int .i64 1]) ?_ rfl ?_
    · simp only [set5] at z0 z1 z2 z3 z4
      simp [results, Tryd.results8, go_sem, z0, z1, z2, z3, z4]
    · refine ⟨_, by rw [HA.out], Z.out, ?_⟩
      rw [HA.out]
      exact in_zero _ _

end Go.Proofs.YtaifciobaapehaaDoor

/- Rows of one's own: an item set. -/
set_option linter.unusedSimpArgs false
set_option linter.unusedVariables false
namespace Go.Proofs.YtaifciobaapehaaDoor
open Go.RowKit

theorem strs_sl {w : World} {ok : Nat → Prop} {xs : List (List UInt8)} {v : Value} (h : StrsAre w ok xs v) (hl : xs.length ≤ 1000000) : SlIs w 1 v xs.length (xs.map str) := by
  have h' := h
  rcases h.2 with ⟨rfl, a, rfl⟩ | ⟨b, off, c, rfl, h1, h2, h3⟩
  · exact slnil w 1 a
  · have := (ss_parts h' xs.length xs.length (Nat.le_refl _) (Nat.le_refl _) hl).1
    rwa [List.take_length] at this
theorem vals_sl {w : World} {ok : Nat → Prop} {d : Nat} {xs : List V} {v : Value} (h : ValsAre w ok (VIs w ok d) xs v) (hl : xs.length ≤ 1000000) : ∃ cs, RowV (VIs w ok d) xs cs ∧ SlIs w 5 v xs.length cs := by
  have h' := h
  rcases h.2 with ⟨rfl, a, rfl⟩ | ⟨b, off, c, rfl, h1, h2, h3⟩
  · exact ⟨[], rfl, slnil w 5 a⟩
  · obtain ⟨c1, c2, r1, s1, -, -⟩ := sl_parts h' xs.length xs.length (Nat.le_refl _) (Nat.le_refl _) hl
    rw [List.take_length] at r1
    exact ⟨c1, r1, s1⟩
theorem own_form {w : World} {B : Nat} {e : TypeId} {size : Nat} {v : Value} {n : Nat} {xs : List Value} (h : w.ownsRow B e size v n xs) : ∃ a c, v = .slice a n c ∧ (n = 0 ∨ ∃ g, a = some ⟨g, 0, none⟩) ∧ n ≤ c ∧ c ≤ 9223372036854775807 ∧ ∀ g, a = some ⟨g, 0, none⟩ → B ≤ g ∧ g < w.heap.size := by
  have hlt := h.lt
  rcases h.2 with ⟨rfl, h0⟩ | ⟨g, cap, cur, rfl, h1, h2, h3, h4, -⟩
  · exact ⟨none, 0, by rw [h0], .inl h0, by omega, by omega, fun g e => by cases e⟩
  · exact ⟨_, cap, rfl, .inr ⟨g, rfl⟩, h3, h4, fun g' e => by cases e; exact hlt g rfl⟩
theorem own_block {w : World} {B : Nat} {e : TypeId} {size : Nat} {a : Option Addr} {n c : Nat} {xs : List Value} (h : w.ownsRow B e size (.slice a n c) n xs) : a = none ∨ ∃ g, a = some ⟨g, 0, none⟩ := by
  rcases h.2 with ⟨e, -⟩ | ⟨g, cap, cur, e, -⟩
  · simp only [Value.slice.injEq] at e; exact .inl e.1
  · simp only [Value.slice.injEq] at e; exact .inr ⟨g, e.1⟩
/- All of a row, each of its own depth: of one depth. -/
theorem row_depth {w : World} {ok : Nat → Prop} : ∀ {xs : List V} {cs : List Value}, RowV (In w ok) xs cs → ∃ D, RowV (VIs w ok D) xs cs
  | [], cs, h => ⟨0, h⟩
  | x :: xs, cs, h => by
    obtain ⟨v0, v1, v2, v3, v4, rest, e, ⟨d, hd⟩, hr⟩ := h
    obtain ⟨D, hD⟩ := row_depth hr
    exact ⟨d + D, v0, v1, v2, v3, v4, rest, e, VIs.le (by omega) hd, hD.imp fun _ _ h => VIs.le (by omega) h⟩

theorem shaped_keys {x : V} (h : shapedB x = true) (hl : x.l.length ≤ 120) : x.keys.length ≤ 120 := by
  unfold shapedB listlessB at h
  repeat' split at h
  all_goals first | (simp only [Bool.and_eq_true, decide_eq_true_eq] at h; omega) | cases h
/- Five cells of a block, set. -/
def set5a (w : World) (g i : Nat) (d0 d1 d2 d3 d4 : Value) : World :=
  ((((w.setCell ⟨g, i, none⟩ d0).setCell ⟨g, i + 1, none⟩ d1).setCell ⟨g, i + 2, none⟩ d2).setCell ⟨g, i + 3, none⟩ d3).setCell ⟨g, i + 4, none⟩ d4
theorem set5a_gb (w : World) (g i : Nat) (d0 d1 d2 d3 d4 : Value) : w.grownBy (set5a w g i d0 d1 d2 d3 d4) (some g) :=
  gb_set (gb_set (gb_set (gb_set (gb_set (gb_refl _ _) _ _) _ _) _ _) _ _) _ _
/- An item of a row of one's own, set. -/
theorem own_set {w : World} {B : Nat} {e : TypeId} {g n cap : Nat} {xs zs : List Value} {d0 d1 d2 d3 d4 v0 v1 v2 v3 v4 : Value} (h : w.ownsRow B e 5 (.slice (some ⟨g, 0, none⟩) n cap) n (xs ++ v0 :: v1 :: v2 :: v3 :: v4 :: zs)) :
    (set5a w g xs.length d0 d1 d2 d3 d4).ownsRow B e 5 (.slice (some ⟨g, 0, none⟩) n cap) n (xs ++ d0 :: d1 :: d2 :: d3 :: d4 :: zs) := by
  obtain ⟨hl, h⟩ := h
  refine ⟨by simpa using hl, ?_⟩
  rcases h with ⟨e, _⟩ | ⟨g', cap', cur, e1, h1, h2, h3, h4, h5, h6⟩
  · cases e
  · simp only [Value.slice.injEq, Option.some.injEq, Addr.mk.injEq, true_and, and_true] at e1
    obtain ⟨rfl, rfl⟩ := e1
    have e9 := heap_set (heap_set (heap_set (heap_set (heap_set h2 xs.length d0) (xs.length + 1) d1) (xs.length + 2) d2) (xs.length + 3) d3) (xs.length + 4) d4
    refine .inr ⟨g, cap, _, rfl, h1, e9, h3, h4, by simp [h5], ?_⟩
    obtain ⟨tl, hcur⟩ : ∃ tl, cur.toList = (xs ++ v0 :: v1 :: v2 :: v3 :: v4 :: zs) ++ tl := ⟨cur.toList.drop (n * 5), by rw [← h6, List.take_append_drop]⟩
    have key : ∀ (r : List Value), (((((xs ++ v0 :: v1 :: v2 :: v3 :: v4 :: r).set xs.length d0).set (xs.length + 1) d1).set (xs.length + 2) d2).set (xs.length + 3) d3).set (xs.length + 4) d4 = xs ++ d0 :: d1 :: d2 :: d3 :: d4 :: r := by
      intro r
      simp [List.set_append]
    have hcur2 : cur.toList = xs ++ v0 :: v1 :: v2 :: v3 :: v4 :: (zs ++ tl) := by rw [hcur]; simp
    simp only [Array.toList_setIfInBounds]
    rw [hcur2, key]
    have hn : n * 5 = (xs ++ d0 :: d1 :: d2 :: d3 :: d4 :: zs).length := by rw [← hl]; simp
    have e10 : xs ++ d0 :: d1 :: d2 :: d3 :: d4 :: (zs ++ tl) = (xs ++ d0 :: d1 :: d2 :: d3 :: d4 :: zs) ++ tl := by simp
    rw [e10, List.take_append_of_le_length (by omega), List.take_of_length_le (by omega)]

theorem drop5 {cs : List Value} {i : Nat} {v0 v1 v2 v3 v4 : Value} (g0 : cs[i * 5]? = some v0) (g1 : cs[i * 5 + 1]? = some v1) (g2 : cs[i * 5 + 2]? = some v2) (g3 : cs[i * 5 + 3]? = some v3) (g4 : cs[i * 5 + 4]? = some v4) : cs.drop (i * 5) = v0 :: v1 :: v2 :: v3 :: v4 :: cs.drop ((i + 1) * 5) := by
  obtain ⟨h0, e0⟩ := List.getElem?_eq_some_iff.1 g0
  obtain ⟨h1, e1⟩ := List.getElem?_eq_some_iff.1 g1
  obtain ⟨h2, e2⟩ := List.getElem?_eq_some_iff.1 g2
  obtain ⟨h3, e3⟩ := List.getElem?_eq_some_iff.1 g3
  obtain ⟨h4, e4⟩ := List.getElem?_eq_some_iff.1 g4
  rw [List.drop_eq_getElem_cons h0, List.drop_eq_getElem_cons h1, List.drop_eq_getElem_cons h2, List.drop_eq_getElem_cons h3, List.drop_eq_getElem_cons h4, e0, e1, e2, e3, e4, show i * 5 + 4 + 1 = (i + 1) * 5 by omega]
def Own5 (w : World) (g i : Nat) : Prop := (∃ u, w.cell? ⟨g, i, none⟩ = some u) ∧ (∃ u, w.cell? ⟨g, i + 1, none⟩ = some u) ∧ (∃ u, w.cell? ⟨g, i + 2, none⟩ = some u) ∧ (∃ u, w.cell? ⟨g, i + 3, none⟩ = some u) ∧ (∃ u, w.cell? ⟨g, i + 4, none⟩ = some u) ∧
  w.frozen? ⟨g, i, none⟩ = false ∧ w.frozen? ⟨g, i + 1, none⟩ = false ∧ w.frozen? ⟨g, i + 2, none⟩ = false ∧ w.frozen? ⟨g, i + 3, none⟩ = false ∧ w.frozen? ⟨g, i + 4, none⟩ = false
theorem own_cells5 {w : World} {B : Nat} {e : TypeId} {g n cap i : Nat} {xs zs : List Value} {v0 v1 v2 v3 v4 : Value} (h : w.ownsRow B e 5 (.slice (some ⟨g, 0, none⟩) n cap) n (xs ++ v0 :: v1 :: v2 :: v3 :: v4 :: zs)) (hi : xs.length = i) :
    w.cell? ⟨g, i, none⟩ = some v0 ∧ w.cell? ⟨g, i + 1, none⟩ = some v1 ∧ w.cell? ⟨g, i + 2, none⟩ = some v2 ∧ w.cell? ⟨g, i + 3, none⟩ = some v3 ∧ w.cell? ⟨g, i + 4, none⟩ = some v4 := by
  subst hi
  have c : ∀ j u, (xs ++ v0 :: v1 :: v2 :: v3 :: v4 :: zs)[j]? = some u → w.cell? ⟨g, j, none⟩ = some u := fun j u hj => by
    have := h.cells (g := g) rfl j u hj
    rw [addr_add, Nat.zero_add] at this; exact this
  exact ⟨c _ _ (by simp), c _ _ (by simp), c _ _ (by simp), c _ _ (by simp), c _ _ (by simp)⟩
theorem own5_of {w : World} {B : Nat} {e : TypeId} {g n cap i : Nat} {xs zs : List Value} {v0 v1 v2 v3 v4 : Value} (h : w.ownsRow B e 5 (.slice (some ⟨g, 0, none⟩) n cap) n (xs ++ v0 :: v1 :: v2 :: v3 :: v4 :: zs)) (hi : xs.length = i) : Own5 w g i := by
  obtain ⟨c0, c1, c2, c3, c4⟩ := own_cells5 h hi
  have fz : ∀ j, w.frozen? ⟨g, j, none⟩ = false := by
    intro j
    rcases h.2 with ⟨e, _⟩ | ⟨g', cap', cur, e1, -, h2, -⟩
    · cases e
    · simp only [Value.slice.injEq, Option.some.injEq, Addr.mk.injEq, and_true] at e1
      obtain ⟨rfl, -, -⟩ := e1
      simp [World.frozen?, h2]
  exact ⟨⟨_, c0⟩, ⟨_, c1⟩, ⟨_, c2⟩, ⟨_, c3⟩, ⟨_, c4⟩, fz _, fz _, fz _, fz _, fz _⟩
theorem bel_set5a {w w1 : World} {g : Nat} (h : Below w.heap.size w w1) (hg : w.heap.size ≤ g) (i : Nat) (d0 d1 d2 d3 d4 : Value) : Below w.heap.size w (set5a w1 g i d0 d1 d2 d3 d4) :=
  gb_none (gb_setA (gb_setA (gb_setA (gb_setA (gb_setA (gb_below h) hg _ _) hg _ _) hg _ _) hg _ _) hg _ _)
end Go.Proofs.YtaifciobaapehaaDoor

set_option linter.unusedSimpArgs false
set_option linter.unusedVariables false
namespace Go.Proofs.YtaifciobaapehaaDoor
open Go.RowKit

/- A slice of values appended to a row of one's own. -/
theorem run_joinV {W : World} {B n m : Nat} {v0 v : Value} {cs ds : List Value} (ho : W.ownsRow B 25 5 v0 n cs) (hs : SlIs W 5 v m ds) (hn : n ≤ 1000000) (hB : B ≤ W.heap.size) (ty : TypeId) :
    ∃ v' W', (Builtin.append_ #[23, 23] ty #[v0, v]).run Tryd.prog W = .ok v' W' ∧ W'.ownsRow B 25 5 v' (n + m) (cs ++ ds) ∧ W.grownBy W' v0.ownBlock := by
  obtain ⟨i0, hi, hz0, hz1, hz2⟩ := info_parts info25
  obtain ⟨h1, h2, h3, h4⟩ := hs
  rcases h4 with ⟨rfl, rfl⟩ | ⟨ad, c, rfl, hc⟩
  · have hd : ds = [] := List.eq_nil_of_length_eq_zero (by simpa using h1)
    subst hd
    exact ⟨_, _, run_append_owned_none (P := Tryd.prog) W B 23 ty 25 i0 5 Tryd.underlying23 hi v0 n cs ho, by simpa using ho, gb_refl _ _⟩
  · obtain ⟨v', W', hr, ho, hg, -, -⟩ := run_append_own_at (P := Tryd.prog) W B 23 ty 25 i0 _ 5 80 Tryd.underlying23 hi hz0 hz1 hz2 rfl (by decide) v0 n cs ho ad m c ds h1 hc h3 (by unfold maxLen; omega) (by omega) hB
    exact ⟨v', W', hr, ho, hg⟩
set_option maxRecDepth 100000 in
set_option maxHeartbeats 8000000 in
theorem rswapped_is (w : World) (ok : Nat → Prop) (t x : V) (v xv : Value) (i : Nat) (h : In w ok t v) (hx : In w ok x xv) (hi : i < t.l.length) (hsz : t.l.length ≤ 100000) :
    Calls Tryd.prog 53 #[v, .int .i64 i, xv] w fun e w' => ∃ r, e = .returned r ∧ Below w.heap.size w w' ∧ In w' (okN ok w.heap.size) { t with l := t.l.take i ++ x :: t.l.drop (i + 1) } r := by
  obtain ⟨l1, l2, l3⟩ := h.lens
  obtain ⟨a7, a8, c7, c8, rfl⟩ := hx.form
  obtain ⟨d, h, hx⟩ := h.low.two hx.low
  have HX := hidI hx
  obtain ⟨ks, ls, rfl, h1, h2, h3, h4, h5⟩ := h
  have KK : Hid (I64 t.kind ∧ I64 t.n ∧ t.s.length ≤ maxLen ∧ StrsAre w _ t.keys ks ∧ ValsAre w _ (VIs w _ d) t.l ls) := ⟨h1, h2, h3, h4, h5⟩
  obtain ⟨a1, c1, rfl⟩ := h4.form
  obtain ⟨a2, c2, rfl⟩ := h5.form
  obtain ⟨cs, hrow, hsl⟩ := vals_sl h5 (by omega)
  have R : Hid (RowV (VIs w _ d) t.l cs ∧ SlIs w 5 (.slice a2 t.l.length c2) t.l.length cs) := ⟨hrow, hsl⟩
  clear h1 h2 h3 h4 h5 hrow hsl hx
  unfold str
  obtain ⟨W0, hW0⟩ : ∃ W0, ((w.alloc (.cells #[.int .i64 t.kind, .int .i64 t.n, .string ⟨t.s.toArray⟩, .slice a1 t.keys.length c1, .slice a2 t.l.length c2] 25)).alloc (.cells #[.int .i64 x.kind, .int .i64 x.n, .string ⟨x.s.toArray⟩, .slice a7 x.keys.length c7, .slice a8 x.l.length c8] 25)).alloc (.cells #[.int .i64 0, .int .i64 0, .string ⟨#[]⟩, .slice none 0 0, .slice none 0 0] 25) = W0 := ⟨_, rfl⟩
  have hb0 : Below w.heap.size w W0 := by rw [← hW0]; exact bel_trans (bel_trans (bel_alloc _ _) (bel_alloc _ _)) (bel_alloc _ _)
  have hs0 : W0.heap.size = w.heap.size + 3 := by rw [← hW0]; simp
  have b0 : BoxIs W0 w.heap.size (.int .i64 t.kind) (.int .i64 t.n) (.string ⟨t.s.toArray⟩) (.slice a1 t.keys.length c1) (.slice a2 t.l.length c2) := by rw [← hW0]; exact h3a w _ _ _
  have b1 : BoxIs W0 (w.heap.size + 1) (.int .i64 x.kind) (.int .i64 x.n) (.string ⟨x.s.toArray⟩) (.slice a7 x.keys.length c7) (.slice a8 x.l.length c8) := by rw [← hW0]; exact h3b w _ _ _
  have b2 : BoxIs W0 (w.heap.size + 2) (.int .i64 0) (.int .i64 0) (.string ⟨#[]⟩) (.slice none 0 0) (.slice none 0 0) := by rw [← hW0]; exact h3c w _ _ _
  obtain ⟨v', W1, hR, ho, hg⟩ := run_joinV (World.ownsRow_nil W0 W0.heap.size 25 5) (R.out.2.bel hb0) (by omega) (Nat.le_refl _) 23
  rw [Nat.zero_add, List.nil_append] at ho
  have hb1 : Below W0.heap.size W0 W1 := gb_none (by simpa [Value.ownBlock] using hg)
  obtain ⟨la, lc, rfl, hla, hlc1, hlc2, hlg⟩ := own_form ho
  obtain ⟨g, rfl⟩ : ∃ g, la = some ⟨g, 0, none⟩ := by rcases hla with h0 | h0; omega; exact h0
  obtain ⟨hg1, hg2⟩ := hlg g rfl
  have hcut : t.l = t.l.take i ++ t.l[i] :: t.l.drop (i + 1) := by rw [← List.drop_eq_getElem_cons hi, List.take_append_drop]
  have r0 := R.out.1
  rw [hcut] at r0
  obtain ⟨cs1, c9, hcs, r1, u0, u1, u2, u3, u4, cs2, rfl, -, r2⟩ := RowV.split r0
  have hlen : cs1.length = i * 5 := by rw [r1.length, List.length_take]; omega
  have ho2 := ho
  rw [hcs] at ho2
  have HR : Hid ((Builtin.append_ #[23, 23] 23 #[.slice none 0 0, .slice a2 t.l.length c2]).run Tryd.prog (((w.alloc (.cells #[.int .i64 t.kind, .int .i64 t.n, .string ⟨t.s.toArray⟩, .slice a1 t.keys.length c1, .slice a2 t.l.length c2] 25)).alloc (.cells #[.int .i64 x.kind, .int .i64 x.n, .string ⟨x.s.toArray⟩, .slice a7 x.keys.length c7, .slice a8 x.l.length c8] 25)).alloc (.cells #[.int .i64 0, .int .i64 0, .string ⟨#[]⟩, .slice none 0 0, .slice none 0 0] 25)) = .ok (.slice (some ⟨g, 0, none⟩) t.l.length lc) W1) := hidI (by rw [hW0]; exact hR)
  have B1 : Hid (BoxIs W1 w.heap.size (.int .i64 t.kind) (.int .i64 t.n) (.string ⟨t.s.toArray⟩) (.slice a1 t.keys.length c1) (.slice a2 t.l.length c2) ∧ BoxIs W1 (w.heap.size + 1) (.int .i64 x.kind) (.int .i64 x.n) (.string ⟨x.s.toArray⟩) (.slice a7 x.keys.length c7) (.slice a8 x.l.length c8) ∧ BoxIs W1 (w.heap.size + 2) (.int .i64 0) (.int .i64 0) (.string ⟨#[]⟩) (.slice none 0 0) (.slice none 0 0) ∧ Below w.heap.size w W1) := hidI ⟨box_bel hb1 b0, box_bel hb1 b1, box_bel hb1 b2, bel_trans hb0 hb1⟩
  obtain ⟨⟨t0, n0⟩, ⟨t1, n1⟩, ⟨t2, n2⟩, ⟨t3, n3⟩, ⟨t4, n4⟩, f0, f1, f2, f3, f4⟩ := own5_of ho2 hlen
  have FIN : Hid (∀ W9, W9 = set5 ((set5a W1 g (i * 5) (.int .i64 x.kind) (.int .i64 x.n) (.string ⟨x.s.toArray⟩) (.slice a7 x.keys.length c7) (.slice a8 x.l.length c8)).setCell ⟨w.heap.size, 4, none⟩ (.slice (some ⟨g, 0, none⟩) t.l.length lc)) (w.heap.size + 2) (.int .i64 t.kind) (.int .i64 t.n) (.string ⟨t.s.toArray⟩) (.slice a1 t.keys.length c1) (.slice (some ⟨g, 0, none⟩) t.l.length lc) → In W9 (okN ok w.heap.size) { t with l := t.l.take i ++ x :: t.l.drop (i + 1) } (.agg #[.int .i64 t.kind, .int .i64 t.n, .string ⟨t.s.toArray⟩, .slice a1 t.keys.length c1, .slice (some ⟨g, 0, none⟩) t.l.length lc]) ∧ Below w.heap.size w W9 ∧ BoxIs W9 (w.heap.size + 2) (.int .i64 t.kind) (.int .i64 t.n) (.string ⟨t.s.toArray⟩) (.slice a1 t.keys.length c1) (.slice (some ⟨g, 0, none⟩) t.l.length lc)) := hidI (by
    rintro W9 rfl
    have gs := set5a_gb W1 g (i * 5) (.int .i64 x.kind) (.int .i64 x.n) (.string ⟨x.s.toArray⟩) (.slice a7 x.keys.length c7) (.slice a8 x.l.length c8)
    have ho3 := own_set (d0 := .int .i64 x.kind) (d1 := .int .i64 x.n) (d2 := .string ⟨x.s.toArray⟩) (d3 := .slice a7 x.keys.length c7) (d4 := .slice a8 x.l.length c8) ho2
    rw [hlen] at ho3
    have hbW2 : Below w.heap.size w (set5a W1 g (i * 5) (.int .i64 x.kind) (.int .i64 x.n) (.string ⟨x.s.toArray⟩) (.slice a7 x.keys.length c7) (.slice a8 x.l.length c8)) := bel_set5a B1.out.2.2.2 (by omega) _ _ _ _ _ _
    have c2' := B1.out.2.2.1.grown gs (by simp; omega)
    obtain ⟨W2, hW2⟩ : ∃ W2, set5a W1 g (i * 5) (.int .i64 x.kind) (.int .i64 x.n) (.string ⟨x.s.toArray⟩) (.slice a7 x.keys.length c7) (.slice a8 x.l.length c8) = W2 := ⟨_, rfl⟩
    rw [hW2] at ho3 hbW2 c2' ⊢
    have g1 : W2.grownBy (W2.setCell ⟨w.heap.size, 4, none⟩ (.slice (some ⟨g, 0, none⟩) t.l.length lc)) (some w.heap.size) := gb_set (gb_refl _ _) _ _
    have g2 := set5_gb (W2.setCell ⟨w.heap.size, 4, none⟩ (.slice (some ⟨g, 0, none⟩) t.l.length lc)) (w.heap.size + 2) (.int .i64 t.kind) (.int .i64 t.n) (.string ⟨t.s.toArray⟩) (.slice a1 t.keys.length c1) (.slice (some ⟨g, 0, none⟩) t.l.length lc)
    have hbx := (c2'.grown g1 (by simp)).set (.int .i64 t.kind) (.int .i64 t.n) (.string ⟨t.s.toArray⟩) (.slice a1 t.keys.length c1) (.slice (some ⟨g, 0, none⟩) t.l.length lc)
    have hb9 : Below w.heap.size w (set5 (W2.setCell ⟨w.heap.size, 4, none⟩ (.slice (some ⟨g, 0, none⟩) t.l.length lc)) (w.heap.size + 2) (.int .i64 t.kind) (.int .i64 t.n) (.string ⟨t.s.toArray⟩) (.slice a1 t.keys.length c1) (.slice (some ⟨g, 0, none⟩) t.l.length lc)) := gb_none (gb_set5 (gb_setA (gb_below hbW2) (Nat.le_refl _) _ _) (by omega) _ _ _ _ _)
    refine ⟨⟨d + 1, _, _, rfl, KK.out.1, KK.out.2.1, KK.out.2.2.1, ?_, ?_⟩, hb9, hbx⟩
    · exact (KK.out.2.2.2.1.bel hb9).imp fun a x hx hc => ⟨.inl hx.1, hc⟩
    · have ho9 := own_kept' (own_kept' ho3 g1 (by omega)) g2 (by omega)
      have hlen2 : t.l.length = (t.l.take i ++ x :: t.l.drop (i + 1)).length := by simp; omega
      refine own_vals hlen2 ho9 ?_ (fun k hk => .inr (by omega)) (by rw [← hlen2]; unfold maxLen; omega)
      have rx : RowV (VIs _ (okN (fun k => ok k ∧ k < w.heap.size) w.heap.size) d) [x] [.int .i64 x.kind, .int .i64 x.n, .string ⟨x.s.toArray⟩, .slice a7 x.keys.length c7, .slice a8 x.l.length c8] := ⟨_, _, _, _, _, [], rfl, (HX.out.bel hb9).toN, rfl⟩
      have := ((r2.bel (B := w.heap.size) hb9).append rx).append (r1.bel (B := w.heap.size) hb9)
      exact this.imp fun _ _ h => h.weak fun k hk => by rcases hk with hk | hk; exact .inl hk.1; exact .inr hk)
  have ne0 : ¬ w.heap.size = g := by omega
  have ne1 : ¬ w.heap.size + 1 = g := by omega
  have ne2 : ¬ w.heap.size + 2 = g := by omega
  have ne3 : ¬ g = w.heap.size := by omega
  have ne4 : ¬ g = w.heap.size + 1 := by omega
  have ne5 : ¬ g = w.heap.size + 2 := by omega
  obtain ⟨p0, p1, p2, p3, p4, p5, p6, p7, p8, p9⟩ := B1.out.1.c
  obtain ⟨q0, q1, q2, q3, q4, -⟩ := B1.out.2.1.c
  obtain ⟨x0, x1, x2, x3, x4, y0, y1, y2, y3, y4⟩ := B1.out.2.2.1.c
  have j0 : (0 : Int) ≤ (i : Int) := by omega
  have j1 : (i : Int) < (t.l.length : Int) := by omega
  clear hR ho ho2 hg hb0 hb1 b0 b1 b2 hW0 hs0 r0 hcut hcs r1 r2 hlen hla hlg R
  go_enter Tryd.func53, Tryd.ntmps53
  go_wp2_with (at_builtin; go_must (refine Lib.wpList_append_run _ rfl _ _ _ _ rfl (.slice none 0 0) (.slice a2 t.l.length c2) rfl rfl _ _ HR.out ?_); refine Hid.out ?_)
  refine hidI ?_
  go_wp2_with fail
  obtain ⟨r1, r2, r3⟩ := FIN.out _ rfl
  obtain ⟨z0, z1, z2, z3, z4, -⟩ := r3.c
  refine bodyPost_ret (v := .agg #[.int .i64 t.kind, .int .i64 t.n, .string ⟨t.s.toArray⟩, .slice a1 t.keys.length c1, .slice (some ⟨g, 0, none⟩) t.l.length lc]) ?_ rfl ?_
  · simp only [set5, set5a] at z0 z1 z2 z3 z4
    simp [results, Tryd.results53, go_sem, z0, z1, z2, z3, z4]
  · exact ⟨_, rfl, r2, r1⟩
end Go.Proofs.YtaifciobaapehaaDoor

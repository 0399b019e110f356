/- What roll of package stage does. -/
import Derived.Test.YtaaaogiheplbmaaHd
set_option linter.unusedSimpArgs false
set_option linter.unusedVariables false
namespace Go.Proofs.Ytaaaogiheplbmaa
open Go.RowKit

theorem SBox.ph {w : World} {g : Nat} {s : Sta} (h : SBox w g s) (n : Int) : SBox (w.setCell ⟨g, 2, none⟩ (.int .i64 n)) g ⟨s.a, s.c, n, s.st, s.we, s.si⟩ := heap_set h 2 _
theorem SBox.st {w : World} {g : Nat} {s : Sta} (h : SBox w g s) (n : Int) : SBox (w.setCell ⟨g, 3, none⟩ (.int .i64 n)) g ⟨s.a, s.c, s.ph, n, s.we, s.si⟩ := heap_set h 3 _
theorem SBox.we {w : World} {g : Nat} {s : Sta} (h : SBox w g s) (n : Int) : SBox (w.setCell ⟨g, 4, none⟩ (.int .i64 n)) g ⟨s.a, s.c, s.ph, s.st, n, s.si⟩ := heap_set h 4 _
theorem SBox.si {w : World} {g : Nat} {s : Sta} (h : SBox w g s) (n : Int) : SBox (w.setCell ⟨g, 5, none⟩ (.int .i64 n)) g ⟨s.a, s.c, s.ph, s.st, s.we, n⟩ := heap_set h 5 _
theorem SBox.far {w : World} {g k i : Nat} {s : Sta} {v : Value} (h : SBox w g s) (hk : g ≠ k) : SBox (w.setCell ⟨k, i, none⟩ v) g s :=
  (Below.heap_setCell w ⟨k, i, none⟩ v g hk).trans h
theorem SBox.lt {w : World} {g : Nat} {s : Sta} (h : SBox w g s) : g < w.heap.size := (Array.getElem?_eq_some_iff.1 h).1

/- What lies there while it rolls on. -/
def RollI (w wr : World) (l : List Stp) (now : Int) (re : Bool) (s t : Sta) : Prop :=
  SBox wr w.heap.size t ∧ SBox wr (w.heap.size + 1) zeroS ∧ Below w.heap.size w wr ∧ 0 ≤ t.st ∧ 0 ≤ t.si ∧ t.si ≤ 1099511627776 ∧ rollF now re (l.drop t.st.toNat) t = rollF now re (l.drop s.st.toNat) s

theorem sdrop_at {l : List Stp} {k : Nat} {x : Stp} (h : l[k]? = some x) : l.drop k = x :: l.drop (k + 1) := by
  obtain ⟨hk, e⟩ := List.getElem?_eq_some_iff.1 h
  rw [List.drop_eq_getElem_cons hk, e]
theorem RollI.on {w wr : World} {l : List Stp} {now : Int} {re : Bool} {s t : Sta} {x : Stp} (R : RollI w wr l now re s t) (hx : l[t.st.toNat]? = some x) (hw : x.w = -1) (hp : t.ph = 3) (hr : ¬ (re = false ∧ (x.p = 0 ∨ now - t.si < x.p))) (o : Obj) :
    RollI w ((((wr.alloc o).setCell ⟨w.heap.size, 2, none⟩ (.int .i64 2)).setCell ⟨w.heap.size, 5, none⟩ (.int .i64 0)).setCell ⟨w.heap.size, 3, none⟩ (.int .i64 (t.st + 1))) l now re s (onS t) := by
  obtain ⟨h1, h2, h3, h4, h5, h6, h7⟩ := R
  refine ⟨(((h1.bel (bel_alloc _ o)).ph 2).si 0).st (t.st + 1), (((h2.bel (bel_alloc _ o)).far (by omega)).far (by omega)).far (by omega), bel_set (bel_set (bel_set (bel_trans h3 (bel_alloc _ o)) (Nat.le_refl _) _ _) (Nat.le_refl _) _ _) (Nat.le_refl _) _ _, by simp [onS]; omega, by simp [onS], by simp [onS], ?_⟩
  rw [← h7, sdrop_at hx, rollF, if_neg (by simp [hw]), if_neg (by simp [hp]), if_neg hr]
  congr 2
  simp only [onS]; omega
theorem RollI.to {w wr : World} {l : List Stp} {now : Int} {re : Bool} {s t : Sta} {x : Stp} (R : RollI w wr l now re s t) (hx : l[t.st.toNat]? = some x) (hw : x.w ≠ -1) (o : Obj) :
    RollI w (((((wr.alloc o).setCell ⟨w.heap.size, 4, none⟩ (.int .i64 x.w)).setCell ⟨w.heap.size, 2, none⟩ (.int .i64 2)).setCell ⟨w.heap.size, 5, none⟩ (.int .i64 0)).setCell ⟨w.heap.size, 3, none⟩ (.int .i64 (t.st + 1))) l now re s (onS (toS t x.w)) := by
  obtain ⟨h1, h2, h3, h4, h5, h6, h7⟩ := R
  refine ⟨((((h1.bel (bel_alloc _ o)).we x.w).ph 2).si 0).st (t.st + 1), ((((h2.bel (bel_alloc _ o)).far (by omega)).far (by omega)).far (by omega)).far (by omega), bel_set (bel_set (bel_set (bel_set (bel_trans h3 (bel_alloc _ o)) (Nat.le_refl _) _ _) (Nat.le_refl _) _ _) (Nat.le_refl _) _ _) (Nat.le_refl _) _ _, by simp [onS, toS]; omega, by simp [onS, toS], by simp [onS, toS], ?_⟩
  rw [← h7, sdrop_at hx, rollF, if_pos hw]
  congr 2
  simp only [onS, toS]; omega

set_option maxRecDepth 100000 in
set_option maxHeartbeats 2000000 in
theorem roll_at (w : World) (l : List Stp) (v : Value) (s : Sta) (now : Int) (re : Bool) (h : StpsAre w l v) (h0 : 0 ≤ s.st) (h1 : 0 ≤ s.si) (h2 : s.si ≤ 1099511627776) (h3 : 0 ≤ now) (h4 : now ≤ 1099511627776) :
    Calls Try.prog 38 #[v, staV s, .int .i64 now, .bool re] w fun e w' => e = .returned (staV (rollF now re (l.drop s.st.toNat) s)) ∧ Below w.heap.size w w' := by
  obtain ⟨r0, hr0⟩ : ∃ r, rollF now re (l.drop s.st.toNat) s = r := ⟨_, rfl⟩
  rw [hr0]
  have HR := hidI hr0
  clear hr0
  have E0 : Hid (staV s = .agg #[.string ⟨s.a.toArray⟩, .string ⟨s.c.toArray⟩, .int .i64 s.ph, .int .i64 s.st, .int .i64 s.we, .int .i64 s.si]) := hidI rfl
  rw [E0.out]
  clear E0
  obtain ⟨a, c, rfl⟩ := h.form
  have H := hidI h
  have ll := h.1
  have I0 : Hid (∀ wr, SBox wr w.heap.size s → SBox wr (w.heap.size + 1) zeroS → Below w.heap.size w wr → RollI w wr l now re s s) := hidI (fun wr k1 k2 k3 => ⟨k1, k2, k3, h0, h1, h2, rfl⟩)
  clear h h0 h1 h2
  go_enter Try.func38, Try.ntmps38
  go_wp2_with fail
  go_loopg [9, 20, 27, 35] (l.length - s.st.toNat) (fun gk _ _ _ _ wr => ∃ t : Sta, Hid (gk = l.length - t.st.toNat) ∧ Hid (RollI w wr l now re s t))
  case atStart => exact ⟨s, hidI rfl, hidI (I0.out _ (h2a _ _ _) (h2b _ _ _) (bel_trans (bel_alloc _ _) (bel_alloc _ _)))⟩
  case round =>
    obtain ⟨t, GK, R⟩ := hrel
    by_cases hlt : t.st < (l.length : Int)
    · have hn0 : 0 ≤ t.st := R.out.2.2.2.1
      have hk : t.st.toNat < l.length := by omega
      obtain ⟨b, off, rfl, j1, j2, k1, k2⟩ := stps_at H.out hk
      have m1 := cell_bel R.out.2.2.1 k1
      have m2 := cell_bel R.out.2.2.1 k2
      clear k1 k2
      obtain ⟨x, hx⟩ : ∃ x, l[t.st.toNat] = x := ⟨_, rfl⟩
      have HX : Hid (l[t.st.toNat]? = some x) := hidI (by rw [List.getElem?_eq_getElem hk, hx])
      have HK := hidI hk
      rw [hx] at m1 m2
      clear hx hk
      obtain ⟨c0, c1, c2, c3, c4, c5, d0, d1, d2, d3, d4, d5⟩ := R.out.1.c
      obtain ⟨c0', c1', c2', c3', c4', c5', d0', d1', d2', d3', d4', d5'⟩ := (R.out.1.bel (bel_alloc wr (.cells #[.int .i64 x.w, .int .i64 x.p] 32))).c
      by_cases hw : x.w = -1
      · have e1 : (x.w == -1) = true := by simp [hw]
        have HW := hidI hw
        clear hw
        by_cases hp : t.ph = 3
        · have e2 : (t.ph == 3) = true := by simp [hp]
          have HP := hidI hp
          clear hp
          have hsi1 : 0 ≤ t.si := R.out.2.2.2.2.1
          have hsi2 : t.si ≤ 1099511627776 := R.out.2.2.2.2.2.1
          have S2 : Hid (SBox (wr.alloc (.cells #[.int .i64 x.w, .int .i64 x.p] 32)) (w.heap.size + 1) zeroS) := hidI (R.out.2.1.bel (bel_alloc _ _))
          obtain ⟨f0, f1, f2, f3, f4, f5, g0, g1, g2, g3, g4, g5⟩ := S2.out.c
          have e4 : t.st + 1 ≤ 9223372036854775807 := by omega
          have HBW : Hid (Below w.heap.size w (wr.alloc (.cells #[.int .i64 x.w, .int .i64 x.p] 32))) := hidI (bel_trans R.out.2.2.1 (bel_alloc _ _))
          cases hre : re with
          | true =>
            subst hre
            have HN := hidI (R.out.on HX.out HW.out HP.out (by simp) (.cells #[.int .i64 x.w, .int .i64 x.p] 32))
            go_wp2_with fail
            go_roundg (l.length - (t.st.toNat + 1))
            case measure => rw [GK.out]; have := HK.out; omega
            case rel => exact ⟨onS t, hidI (by simp only [onS]; omega), HN⟩
          | false =>
            subst hre
            by_cases p0 : x.p = 0
            · have e5 : (x.p == 0) = true := by simp [p0]
              have FIN : Hid (r0 = t) := hidI (by rw [← HR.out, ← R.out.2.2.2.2.2.2, sdrop_at HX.out, rollF, if_neg (by simp [HW.out]), if_neg (by simp [HP.out]), if_pos ⟨rfl, .inl p0⟩])
              clear p0
              go_wp2_with fail
              rw [FIN.out]
              obtain ⟨z0, z1, z2, z3, z4, z5, -⟩ := (S2.out.set t).c
              refine bodyPost_ret (v := staV t) ?_ rfl ⟨rfl, bel_set6 HBW.out (by omega) t⟩
              simp only [set6] at z0 z1 z2 z3 z4 z5
              simp [results, Try.results38, go_sem, z0, z1, z2, z3, z4, z5, staV]
            · have e5 : (x.p == 0) = false := by simp [p0]
              by_cases p1 : now - t.si < x.p
              · have FIN : Hid (r0 = t) := hidI (by rw [← HR.out, ← R.out.2.2.2.2.2.2, sdrop_at HX.out, rollF, if_neg (by simp [HW.out]), if_neg (by simp [HP.out]), if_pos ⟨rfl, .inr p1⟩])
                clear p0
                go_wp2_with fail
                rw [FIN.out]
                obtain ⟨z0, z1, z2, z3, z4, z5, -⟩ := (S2.out.set t).c
                refine bodyPost_ret (v := staV t) ?_ rfl ⟨rfl, bel_set6 HBW.out (by omega) t⟩
                simp only [set6] at z0 z1 z2 z3 z4 z5
                simp [results, Try.results38, go_sem, z0, z1, z2, z3, z4, z5, staV]
              · have HN := hidI (R.out.on HX.out HW.out HP.out (by simp [p0]; omega) (.cells #[.int .i64 x.w, .int .i64 x.p] 32))
                clear p0
                go_wp2_with fail
                go_roundg (l.length - (t.st.toNat + 1))
                case measure => rw [GK.out]; have := HK.out; omega
                case rel => exact ⟨onS t, hidI (by simp only [onS]; omega), HN⟩
        · have e2 : (t.ph == 3) = false := by simp [hp]
          have HP := hidI hp
          clear hp
          have S2 : Hid (SBox (((wr.alloc (.cells #[.int .i64 x.w, .int .i64 x.p] 32)).setCell ⟨w.heap.size, 2, none⟩ (.int .i64 3)).setCell ⟨w.heap.size, 5, none⟩ (.int .i64 now)) (w.heap.size + 1) zeroS) := hidI (((R.out.2.1.bel (bel_alloc _ _)).far (by omega)).far (by omega))
          have S3 : Hid (SBox (((wr.alloc (.cells #[.int .i64 x.w, .int .i64 x.p] 32)).setCell ⟨w.heap.size, 2, none⟩ (.int .i64 3)).setCell ⟨w.heap.size, 5, none⟩ (.int .i64 now)) w.heap.size (waitS t now)) := hidI (((R.out.1.bel (bel_alloc _ _)).ph 3).si now)
          obtain ⟨f0, f1, f2, f3, f4, f5, g0, g1, g2, g3, g4, g5⟩ := S2.out.c
          obtain ⟨i0, i1, i2, i3, i4, i5, -⟩ := S3.out.c
          simp only [waitS] at i0 i1 i2 i3 i4 i5
          have FIN : Hid (r0 = waitS t now) := hidI (by rw [← HR.out, ← R.out.2.2.2.2.2.2, sdrop_at HX.out, rollF, if_neg (by simp [HW.out]), if_pos HP.out])
          have HBW : Hid (Below w.heap.size w (((wr.alloc (.cells #[.int .i64 x.w, .int .i64 x.p] 32)).setCell ⟨w.heap.size, 2, none⟩ (.int .i64 3)).setCell ⟨w.heap.size, 5, none⟩ (.int .i64 now))) := hidI (bel_set (bel_set (bel_trans R.out.2.2.1 (bel_alloc _ _)) (Nat.le_refl _) _ _) (Nat.le_refl _) _ _)
          go_wp2_with fail
          rw [FIN.out]
          obtain ⟨z0, z1, z2, z3, z4, z5, -⟩ := (S2.out.set (waitS t now)).c
          refine bodyPost_ret (v := staV (waitS t now)) ?_ rfl ⟨rfl, bel_set6 HBW.out (by omega) (waitS t now)⟩
          simp only [set6, waitS] at z0 z1 z2 z3 z4 z5
          simp [results, Try.results38, go_sem, z0, z1, z2, z3, z4, z5, staV, waitS]
      · have e1 : (x.w == -1) = false := by simp [hw]
        have HN := hidI (R.out.to HX.out hw (.cells #[.int .i64 x.w, .int .i64 x.p] 32))
        have e4 : t.st + 1 ≤ 9223372036854775807 := by omega
        clear hw
        go_wp2_with fail
        go_roundg (l.length - (t.st.toNat + 1))
        case measure => rw [GK.out]; have := HK.out; omega
        case rel => exact ⟨onS (toS t x.w), hidI (by simp only [onS, toS]; omega), HN⟩
    · have hn0 : 0 ≤ t.st := R.out.2.2.2.1
      have FIN : Hid (r0 = healthyS t.c) := hidI (by rw [← HR.out, ← R.out.2.2.2.2.2.2, List.drop_eq_nil_of_le (by omega)]; rfl)
      obtain ⟨c0, c1, c2, c3, c4, c5, d0, d1, d2, d3, d4, d5⟩ := R.out.1.c
      go_wp2_with (go_at_call 22; refine (healthy_b _ t.c).mono ?_; rintro e w2 ⟨rfl, hb2⟩; have S2 := hidI (R.out.2.1.bel hb2); have HB2 := hidI (bel_trans R.out.2.2.1 hb2); obtain ⟨f0, f1, f2, f3, f4, f5, g0, g1, g2, g3, g4, g5⟩ := S2.out.c; clear hb2)
      rw [FIN.out]
      obtain ⟨z0, z1, z2, z3, z4, z5, -⟩ := (S2.out.set (healthyS t.c)).c
      refine bodyPost_ret (v := staV (healthyS t.c)) ?_ rfl ⟨rfl, bel_set6 HB2.out (by omega) (healthyS t.c)⟩
      simp only [set6, healthyS] at z0 z1 z2 z3 z4 z5
      simp [results, Try.results38, go_sem, z0, z1, z2, z3, z4, z5, staV, healthyS]
end Go.Proofs.Ytaaaogiheplbmaa

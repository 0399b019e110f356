/- What JsonSpaces of package stairwellkeep answers. -/
import Derived.Test.YtkmonpdppgcgaaaDoorUa
import Derived.Test.YtkmonpdppgcgaaaDoorTa
set_option linter.unusedSimpArgs false
set_option linter.unusedVariables false
namespace Go.Proofs.YtkmonpdppgcgaaaDoor
open Go.RowKit

theorem allS_refl {f : V → V → Bool} : ∀ (l : List V), (∀ x ∈ l, f x x = true) → allS f l l = true
  | [], _ => rfl
  | x :: l, h => by rw [allS, h x (by simp), allS_refl l fun y hy => h y (by simp [hy])]; rfl
theorem vals_mem {w : World} {ok : Nat → Prop} {R : V → Value → Prop} {xs : List V} {v : Value} (h : ValsAre w ok R xs v) {x : V} (hx : x ∈ xs) : ∃ y, R x y := by
  rcases h.2 with ⟨e, _⟩ | ⟨b, off, c, e, h1, h2, h3⟩
  · rw [e] at hx; cases hx
  · obtain ⟨i, hi⟩ := List.getElem?_of_mem hx
    obtain ⟨v0, v1, v2, v3, v4, -, -, -, -, -, -, g⟩ := h3 i x hi
    exact ⟨_, g⟩
theorem sameS_refl {w : World} {ok : Nat → Prop} (d : Nat) : ∀ {t : V} {v : Value}, VIs w ok d t v → sameS d t t = true := by
  induction d with
  | zero => intro t v h; exact h.elim
  | succ d ih =>
    intro t v h
    obtain ⟨ks, ls, e, h1, h2, h3, h4, h5⟩ := h
    have := allS_refl (f := sameS d) t.l fun x hx => by obtain ⟨y, hy⟩ := vals_mem h5 hx; exact ih hy
    simp [sameS, this]
theorem ba_app (a b : List UInt8) : ByteArray.mk a.toArray ++ ByteArray.mk b.toArray = ByteArray.mk (a ++ b).toArray := by
  apply ByteArray.ext; simp
theorem bel_drewN (w : World) (n : Nat) : Below w.heap.size w (w.drewN n) := ⟨rfl, rfl, rfl, Nat.le_refl _, fun _ _ => rfl⟩

set_option maxRecDepth 100000 in
set_option maxHeartbeats 4000000 in
theorem spaces_law (w : World) (s g : List UInt8) (hs : s.length ≤ 140737488351232) (hg : g.length ≤ 140737488351232) (hG : Glob w) :
    Calls Tryd.prog 7 #[str s, str g] w fun e w' => e = .returned (.bool true) ∧ Below w.heap.size w w' := by
  have HS : Hid (s.length ≤ maxLen) := hidI (by unfold maxLen; omega)
  have HG := hidI hG
  clear hG
  unfold str
  go_enter Tryd.func7, Tryd.ntmps7
  go_wp2_with fail
  go_loop [12] (fun i => ∃ k : Nat, k ≤ g.length ∧ i = .int .i64 k ∧ Hid (Gap (g.take k))) (fun i => g.length - (intOf i).toNat)
  case atStart => exact ⟨0, Nat.zero_le _, rfl, hidI (fun c h => by simp at h)⟩
  case round =>
    obtain ⟨k, hk, rfl, HA⟩ := hrel
    by_cases hlt : k < g.length
    · have hb : (g[k].toNat : Int) < 256 := by have := g[k].toNat_lt; omega
      have hsz : k < (ByteArray.mk g.toArray).size := by simpa [ByteArray.size] using hlt
      have hget : (ByteArray.mk g.toArray)[k] = g[k] := rfl
      cases hsp : isSp g[k] with
      | true =>
        have HR : Hid (Gap (g.take (k + 1))) := hidI (by
          rw [List.take_add_one, List.getElem?_eq_getElem hlt]
          intro c hc
          rcases List.mem_append.1 hc with hc | hc
          · exact HA.out c hc
          · simp at hc; subst hc; exact hsp)
        have hd : (g[k].toNat : Int) = 32 ∨ (g[k].toNat : Int) = 9 ∨ (g[k].toNat : Int) = 10 ∨ (g[k].toNat : Int) = 13 := by
          rcases gap_no hsp with h | h | h | h <;> rw [h] <;> decide
        clear hsp
        rcases hd with h | h | h | h
        · have n1 : ((g[k].toNat : Int) != 32) = false := by rw [h]; rfl
          have q1 : ((g[k].toNat : Int) == 32) = true := by rw [h]; rfl
          clear h
          go_wp2_with fail
          go_round
          case rel => exact ⟨k + 1, by omega, by go_num, HR⟩
          case measure => simp [intOf]; omega
        · have n1 : ((g[k].toNat : Int) != 32) = true := by rw [h]; rfl
          have q1 : ((g[k].toNat : Int) == 32) = false := by rw [h]; rfl
          have n2 : ((g[k].toNat : Int) != 9) = false := by rw [h]; rfl
          have q2 : ((g[k].toNat : Int) == 9) = true := by rw [h]; rfl
          clear h
          go_wp2_with fail
          go_round
          case rel => exact ⟨k + 1, by omega, by go_num, HR⟩
          case measure => simp [intOf]; omega
        · have n1 : ((g[k].toNat : Int) != 32) = true := by rw [h]; rfl
          have q1 : ((g[k].toNat : Int) == 32) = false := by rw [h]; rfl
          have n2 : ((g[k].toNat : Int) != 9) = true := by rw [h]; rfl
          have q2 : ((g[k].toNat : Int) == 9) = false := by rw [h]; rfl
          have n3 : ((g[k].toNat : Int) != 10) = false := by rw [h]; rfl
          have q3 : ((g[k].toNat : Int) == 10) = true := by rw [h]; rfl
          clear h
          go_wp2_with fail
          go_round
          case rel => exact ⟨k + 1, by omega, by go_num, HR⟩
          case measure => simp [intOf]; omega
        · have n1 : ((g[k].toNat : Int) != 32) = true := by rw [h]; rfl
          have q1 : ((g[k].toNat : Int) == 32) = false := by rw [h]; rfl
          have n2 : ((g[k].toNat : Int) != 9) = true := by rw [h]; rfl
          have q2 : ((g[k].toNat : Int) == 9) = false := by rw [h]; rfl
          have n3 : ((g[k].toNat : Int) != 10) = true := by rw [h]; rfl
          have q3 : ((g[k].toNat : Int) == 10) = false := by rw [h]; rfl
          have n4 : ((g[k].toNat : Int) != 13) = false := by rw [h]; rfl
          have q4 : ((g[k].toNat : Int) == 13) = true := by rw [h]; rfl
          clear h
          go_wp2_with fail
          go_round
          case rel => exact ⟨k + 1, by omega, by go_num, HR⟩
          case measure => simp [intOf]; omega
      | false =>
        have hd : (g[k].toNat : Int) ≠ 32 ∧ (g[k].toNat : Int) ≠ 9 ∧ (g[k].toNat : Int) ≠ 10 ∧ (g[k].toNat : Int) ≠ 13 := by
          have : ∀ n : Nat, n < 256 → isSp (UInt8.ofNat n) = false → (n : Int) ≠ 32 ∧ (n : Int) ≠ 9 ∧ (n : Int) ≠ 10 ∧ (n : Int) ≠ 13 := by
            intro n hn hf
            refine ⟨?_, ?_, ?_, ?_⟩ <;> intro h <;> (have h2 : n = _ := Int.ofNat.inj h) <;> subst h2 <;> revert hf <;> decide
          exact this _ g[k].toNat_lt (by rw [UInt8.ofNat_toNat]; exact hsp)
        clear hsp
        obtain ⟨d1, d2, d3, d4⟩ := hd
        have n1 : ((g[k].toNat : Int) != 32) = true := by simpa using d1
        have n2 : ((g[k].toNat : Int) != 9) = true := by simpa using d2
        have n3 : ((g[k].toNat : Int) != 10) = true := by simpa using d3
        have n4 : ((g[k].toNat : Int) != 13) = true := by simpa using d4
        have q1 : ((g[k].toNat : Int) == 32) = false := by simpa using d1
        have q2 : ((g[k].toNat : Int) == 9) = false := by simpa using d2
        have q3 : ((g[k].toNat : Int) == 10) = false := by simpa using d3
        have q4 : ((g[k].toNat : Int) == 13) = false := by simpa using d4
        clear d1 d2 d3 d4
        go_wp2_with fail
        refine (reads_at _ (by exact HG.out)).mono ?_
        rintro e w1 ⟨rfl, hb1⟩
        have HB1 := hidI hb1
        clear hb1
        go_wp2_with fail
        go_ret
        exact ⟨rfl, HB1.out⟩
    · have hke : k = g.length := by omega
      subst hke
      have GA : Hid (Gap g) := hidI (by have := HA.out; rwa [List.take_length] at this)
      clear HA hlt
      by_cases hbig : 2000 < s.length + 2 * g.length
      · have e0 : 2000 < (s.length : Int) + 2 * (g.length : Int) := by omega
        go_wp2_with fail
        refine (reads_at _ (by exact HG.out)).mono ?_
        rintro e w1 ⟨rfl, hb1⟩
        have HB1 := hidI hb1
        clear hb1
        go_wp2_with fail
        go_ret
        exact ⟨rfl, HB1.out⟩
      · have e0 : ¬ (2000 < (s.length : Int) + 2 * (g.length : Int)) := by omega
        have hsm : s.length + 2 * g.length ≤ 2000 := by omega
        clear hbig
        go_wp2_with fail
        refine (parse_at _ s HS.out (by exact HG.out)).mono ?_
        rintro e w1 ⟨t, ee, a7, a8, c7, c8, rfl, hp, hv, hb⟩
        have HP := hidI hp
        have HV := hidI hv
        have HB := hidI hb
        have HG1 : Hid (Glob w1) := HG.out.grown (gb_below (r := none) hb) (by simp)
        clear hp hv hb
        go_wp2_with fail
        rw [ba_app, ba_app]
        refine (parse_at _ (g ++ s ++ g) (by unfold maxLen; simp; omega) (by exact HG1.out.grown (World.grownBy_alloc _ _ none) (by simp))).mono ?_
        rintro e w2 ⟨t2, ee2, a72, a82, c72, c82, rfl, hp2, hv2, hb2⟩
        rw [parseS_gap GA.out s hsm, HP.out] at hp2
        simp only [Prod.mk.injEq] at hp2
        obtain ⟨e5, e6⟩ := hp2
        subst e5
        subst e6
        have V2 : Hid (VIs (w2.alloc (.cells #[.int .i64 t.kind, .int .i64 t.n, .string ⟨t.s.toArray⟩, .slice a72 t.keys.length c72, .slice a82 t.l.length c82] 25)) (fun k => (w1.alloc (.cells #[.int .i64 t.kind, .int .i64 t.n, .string ⟨t.s.toArray⟩, .slice a7 t.keys.length c7, .slice a8 t.l.length c8] 25)).heap.size ≤ k) 2003 t (.agg #[.int .i64 t.kind, .int .i64 t.n, .string ⟨t.s.toArray⟩, .slice a72 t.keys.length c72, .slice a82 t.l.length c82])) := hidI (hv2.bel (bel_alloc _ _))
        have V1 : Hid (VIs (w2.alloc (.cells #[.int .i64 t.kind, .int .i64 t.n, .string ⟨t.s.toArray⟩, .slice a72 t.keys.length c72, .slice a82 t.l.length c82] 25)) (fun k => w.heap.size ≤ k) 2003 t (.agg #[.int .i64 t.kind, .int .i64 t.n, .string ⟨t.s.toArray⟩, .slice a7 t.keys.length c7, .slice a8 t.l.length c8])) := hidI (HV.out.bel (bel_trans (bel_alloc _ _) (bel_trans hb2 (bel_alloc _ _))))
        have B1 : Hid (BoxIs (w2.alloc (.cells #[.int .i64 t.kind, .int .i64 t.n, .string ⟨t.s.toArray⟩, .slice a72 t.keys.length c72, .slice a82 t.l.length c82] 25)) w1.heap.size (.int .i64 t.kind) (.int .i64 t.n) (.string ⟨t.s.toArray⟩) (.slice a7 t.keys.length c7) (.slice a8 t.l.length c8)) := hidI (box_bel (bel_alloc _ _) (box_bel hb2 (heap_alloc_new w1 _)))
        have B2 : Hid (BoxIs (w2.alloc (.cells #[.int .i64 t.kind, .int .i64 t.n, .string ⟨t.s.toArray⟩, .slice a72 t.keys.length c72, .slice a82 t.l.length c82] 25)) w2.heap.size (.int .i64 t.kind) (.int .i64 t.n) (.string ⟨t.s.toArray⟩) (.slice a72 t.keys.length c72) (.slice a82 t.l.length c82)) := hidI (heap_alloc_new w2 _)
        have BB : Hid (Below w.heap.size w (w2.alloc (.cells #[.int .i64 t.kind, .int .i64 t.n, .string ⟨t.s.toArray⟩, .slice a72 t.keys.length c72, .slice a82 t.l.length c82] 25))) := hidI (bel_trans HB.out (bel_trans (bel_alloc _ _) (bel_trans hb2 (bel_alloc _ _))))
        have G2 : Hid (Glob (w2.alloc (.cells #[.int .i64 t.kind, .int .i64 t.n, .string ⟨t.s.toArray⟩, .slice a72 t.keys.length c72, .slice a82 t.l.length c82] 25))) := hidI (HG.out.grown (gb_below (r := none) BB.out) (by simp))
        clear hv2 hb2 HV HB HG1 HP
        obtain ⟨x0, x1, x2, x3, x4, -⟩ := B1.out.c
        obtain ⟨y0, y1, y2, y3, y4, -⟩ := B2.out.c
        have SR := hidI (sameS_refl 2003 V1.out)
        go_wp2_with fail
        refine (same_all 2003 _ _ _ t t _ _ (by exact V1.out) (by exact V2.out)).mono ?_
        rintro e w3 ⟨rfl, hb3⟩
        rw [SR.out]
        have HB3 := hidI hb3
        have HG3 : Hid (Glob w3) := hidI (G2.out.grown (gb_below (r := none) hb3) (by simp))
        clear hb3
        go_wp2_with fail
        refine (reads_at _ (by exact HG3.out)).mono ?_
        rintro e w4 ⟨rfl, hb4⟩
        have HB4 := hidI hb4
        clear hb4
        go_wp2_with fail
        go_ret
        exact ⟨rfl, bel_trans BB.out (bel_trans HB3.out HB4.out)⟩
end Go.Proofs.YtkmonpdppgcgaaaDoor

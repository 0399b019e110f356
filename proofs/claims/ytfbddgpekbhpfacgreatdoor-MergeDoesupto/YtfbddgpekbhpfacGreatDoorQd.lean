/- What appendObject of package json does, if appendValue does what is said of it. -/
import Derived.Test.YtfbddgpekbhpfacGreatDoorQc
set_option linter.unusedSimpArgs false
set_option linter.unusedVariables false
namespace Go.Proofs.YtfbddgpekbhpfacGreatDoor
open Go.RowKit

set_option maxRecDepth 100000 in
set_option maxHeartbeats 4000000 in
theorem appendObject_st (d : Nat) (ih : AppC d) (w : World) (B : Nat) (v : Value) (acc : List UInt8) (t : V) (val : Value) (hv : VIs w (fun k => k < B) (d + 1) t val) (hsm : SmallV (d + 1) t) (h : BRow w B v acc) (hB : B ≤ w.heap.size) (hG : Glob w) (hgB : 4 ≤ B)
    (hkd : t.kind ≠ 4) (hl : acc.length + (commaS (pairS (printS d) t.keys t.l)).length + 2 ≤ 100000000) :
    Calls Tryz.prog 52 #[v, val] w fun e w' => ∃ v', e = .returned v' ∧ BRow w' B v' (acc ++ (123 :: commaS (pairS (printS d) t.keys t.l) ++ [125])) ∧ Fr B w w' := by
  obtain ⟨a7, a8, c7, c8, rfl⟩ := hv.shape
  have HV := hidI hv
  have IH := hidI ih
  have H := hidI h
  have HG := hidI hG
  have HS := hidI hsm
  have l2 : t.l.length ≤ maxLen := by obtain ⟨ks, ls, e, h1, h2, h3, h4, h5⟩ := hv; exact h5.1
  have lk : t.l.length ≤ t.keys.length := hsm.2.1 hkd
  have lk2 : t.keys.length ≤ maxLen := by obtain ⟨ks, ls, e, h1, h2, h3, h4, h5⟩ := hv; exact h4.1
  unfold maxLen at l2 lk2
  clear hv ih h hG hsm
  have hB1 : B ≤ (w.alloc (.cells #[.int .i64 t.kind, .int .i64 t.n, .string ⟨t.s.toArray⟩, .slice a7 t.keys.length c7, .slice a8 t.l.length c8] 25)).heap.size := by simp; omega
  go_enter Tryz.func52, Tryz.ntmps52
  go_wp2_with (at_builtin; go_must (refine append_bytesG rfl _ _ rfl B v acc [123] _ (by rfl) 1 rfl rfl (w.heap.size + 1) (by simp) rfl (by exact H.out.alloc _) hB1 (by omega) (by decide) ?_); intro v4 w4 hown4 hgrow4; refine Hid.out ?_)
  refine hidI ?_
  have Q4 := hidI (hgrow4.box (g := w.heap.size) (heap_alloc_new w _))
  have q4 := Q4.out.c.2.2.2.2.1
  have D := hidI (And.intro hown4 ((fr_alloc w B _ hB).trans hgrow4))
  clear hown4 hgrow4
  go_wp2_with fail
  go_loopg [0, 13] t.l.length (fun gk u i wr => ∃ (k : Nat), k ≤ t.l.length ∧ gk = t.l.length - k ∧ i = .int .i64 k ∧ BRow wr B u (acc ++ [123] ++ commaS ((pairS (printS d) t.keys t.l).take k)) ∧ Fr B w wr ∧ BoxIs wr w.heap.size (.int .i64 t.kind) (.int .i64 t.n) (.string ⟨t.s.toArray⟩) (.slice a7 t.keys.length c7) (.slice a8 t.l.length c8))
  case atStart => exact ⟨0, Nat.zero_le _, rfl, rfl, by simpa [commaS] using D.out.1, D.out.2, Q4.out⟩
  case round =>
    obtain ⟨k, hk, hgk, rfl, hrow, hbel, hbox⟩ := hrel
    have A := hidI (And.intro hrow hbel)
    have BX := hidI hbox
    have hBr : B ≤ wr.heap.size := Nat.le_trans hB hbel.size
    clear hrow hbel hbox q4
    by_cases hlt : k < t.l.length
    · have hlk : k < t.keys.length := by omega
      have hvr := HV.out.fr A.out.2
      have hxm : (pairS (printS d) t.keys t.l)[k]? = some (quoteS t.keys[k] ++ 58 :: printS d t.l[k]) := by simp [pairS, List.getElem?_zipWith, hlt, hlk]
      have hpl := part_len hxm
      have HX := hidI hxm
      clear hxm
      obtain ⟨ks, ls, e, -, -, -, h4, h5⟩ := hvr
      simp only [Value.agg.injEq, Array.mk.injEq, List.cons.injEq, and_true] at e
      obtain ⟨-, -, -, rfl, rfl⟩ := e
      obtain ⟨_, h5⟩ := h5
      rcases h5 with ⟨e, _⟩ | ⟨b, off, c, hls, hc1, hc2, hcs⟩
      · rw [e] at hlt; simp at hlt
      simp only [Value.slice.injEq] at hls
      obtain ⟨rfl, -, rfl⟩ := hls
      obtain ⟨v0, v1, v2, v3, v4', g', g0, g1, g2, g3, g4, g5⟩ := hcs k t.l[k] (List.getElem?_eq_getElem hlt)
      have G5 := hidI g5
      obtain ⟨rfl, rfl, rfl, ⟨a5, c5, rfl⟩, ⟨a6, c6, rfl⟩⟩ := g5.agg
      clear hcs g5
      unfold maxLen at hc2
      have hsx : Hid (SmallV d t.l[k]) := HS.out.2.2.2 _ (List.getElem_mem hlt)
      have hBr1 : ∀ o, B ≤ (wr.alloc o).heap.size := fun o => by simp; omega
      have hkl : Hid (t.keys[k].length ≤ 1000000) := hidI (Nat.le_trans (HS.out.2.2.1 _ (List.getElem_mem hlk)) (by decide))
      have hbxs : w.heap.size < wr.heap.size := BX.out.lt
      obtain ⟨b2, off2, rfl, kcell, hb2⟩ : ∃ b2 off2, a7 = some ⟨b2, off2, none⟩ ∧ wr.cell? ⟨b2, off2 + k, none⟩ = some (.string ⟨t.keys[k].toArray⟩) ∧ b2 < B := by
        rcases h4.2 with ⟨e, _⟩ | ⟨b2, off2, c2, e, -, -, hcs2⟩
        · rw [e] at hlk; simp at hlk
        · simp only [Value.slice.injEq] at e
          obtain ⟨rfl, -, -⟩ := e
          obtain ⟨-, g1, g2⟩ := hcs2 k t.keys[k] (List.getElem?_eq_getElem hlk)
          exact ⟨b2, off2, rfl, g2, g1⟩
      clear h4
      have KC : Hid (∀ w', Fr B wr w' → w'.cell? ⟨b2, off2 + k, none⟩ = some (.string ⟨t.keys[k].toArray⟩)) := fun w' hf => (World.cell?_of_block (hf.1.block _ hb2)).trans kcell
      have hpl' := hpl
      simp only [List.length_append, List.length_cons] at hpl'
      clear hpl
      by_cases hk0 : k = 0
      · subst hk0
        simp only [Nat.zero_mul, Nat.add_zero] at g0 g1 g2 g3 g4
        have kq : ∀ o, (wr.alloc o).cell? ⟨b2, off2, none⟩ = some (.string ⟨t.keys[0].toArray⟩) := fun o => KC.out _ (fr_alloc _ _ _ hBr)
        have x3 : ∀ o, (wr.alloc o).cell? ⟨w.heap.size, 3, none⟩ = some (.slice (some ⟨b2, off2, none⟩) t.keys.length c7) := fun o => ((fr_alloc wr B o hBr).box BX.out).c.2.2.2.1
        have x3' := BX.out.c.2.2.2.1
        simp only [Nat.add_zero] at kcell
        simp only [if_true] at hpl'
        go_wp2_with fail
        refine (appendQuoted_at _ B u0 (acc ++ [123] ++ commaS ((pairS (printS d) t.keys t.l).take 0)) t.keys[0] (by exact A.out.1.alloc _) (by exact hBr1 _) ?_ hkl.out).mono ?_
        · skip
          simp only [List.length_append, List.length_cons, List.length_nil]; omega
        rintro e w7 ⟨v7, rfl, hrow7, hbel7⟩
        have IB7 := hidI (hbel7.box (g := wr.heap.size) (heap_alloc_new wr _))
        have D7 := hidI (And.intro hrow7 ((fr_alloc wr B _ hBr).trans hbel7))
        have hB7 : B ≤ w7.heap.size := Nat.le_trans hBr D7.out.2.size
        clear hrow7 hbel7
        have hl8 : ((acc ++ ([123] : List UInt8) ++ commaS ((pairS (printS d) t.keys t.l).take 0) : List UInt8) ++ quoteS t.keys[0]).length ≤ 1000000000 := by
          skip
          simp only [List.length_append, List.length_cons, List.length_nil]; omega
        go_wp2_with (at_builtin; go_must (refine append_bytes rfl _ _ rfl B v7 _ [58] _ (by rfl) 1 rfl rfl rfl D7.out.1 hB7 hl8 (by decide) ?_); intro v8 w8 hown8 hgrow8; refine Hid.out ?_)
        refine hidI ?_
        obtain ⟨r0, r1, r2, r3, r4, -⟩ := (hgrow8.box IB7.out).c
        have D8 := hidI (And.intro hown8 (D7.out.2.trans hgrow8))
        have hB8 : B ≤ w8.heap.size := Nat.le_trans hBr D8.out.2.size
        clear hown8 hgrow8
        go_wp2_with fail
        refine (IH.out _ B v8 ((acc ++ ([123] : List UInt8) ++ commaS ((pairS (printS d) t.keys t.l).take 0) : List UInt8) ++ quoteS t.keys[0] ++ ([58] : List UInt8)) t.l[0] _ (by exact G5.out.fr D8.out.2) hsx.out (by exact D8.out.1) hB8 (by exact HG.out.fr (A.out.2.trans D8.out.2) hgB) hgB ?_).mono ?_
        · skip
          simp only [List.length_append, List.length_cons, List.length_nil]; omega
        rintro e w5 ⟨v5, rfl, hrow5, hbel5⟩
        have D5 := hidI (And.intro hrow5 (D8.out.2.trans hbel5))
        clear hrow5 hbel5
        go_wp2_with fail
        go_roundg (t.l.length - (0 + 1))
        case measure => omega
        case rel => exact ⟨0 + 1, hlt, rfl, by go_num, by rw [take_step HX.out, commaS_snoc]; simpa [commaS] using D5.out.1, A.out.2.trans D5.out.2, D5.out.2.box BX.out⟩
      · have hk1 : 0 < (k : Int) := by omega
        have h9 : Hid ((pairS (printS d) t.keys t.l).take k ≠ []) := by
          intro e; have := congrArg List.length e; simp only [List.length_take, pairS, List.length_zipWith, List.length_nil] at this; omega
        simp only [if_neg hk0] at hpl'
        have hl9 : (acc ++ [123] ++ commaS ((pairS (printS d) t.keys t.l).take k)).length ≤ 1000000000 := by
          simp only [List.length_append, List.length_cons, List.length_nil]; omega
        go_wp2_with (at_builtin; go_must (refine append_bytesG rfl _ _ rfl B u0 _ [44] _ (by rfl) 1 rfl rfl (wr.heap.size + 1) (by simp) rfl (by exact A.out.1.alloc _) (hBr1 _) hl9 (by decide) ?_); intro v6 w6 hown6 hgrow6; refine Hid.out ?_)
        refine hidI ?_
        have IB6 := hidI (hgrow6.box (g := wr.heap.size) (heap_alloc_new wr _))
        have D6 := hidI (And.intro hown6 ((fr_alloc wr B _ hBr).trans hgrow6))
        have hB6 : B ≤ w6.heap.size := Nat.le_trans hBr D6.out.2.size
        have kq := KC.out _ D6.out.2
        have x3 := (D6.out.2.box BX.out).c.2.2.2.1
        clear hown6 hgrow6
        go_wp2_with fail
        refine (appendQuoted_at _ B v6 (acc ++ [123] ++ commaS ((pairS (printS d) t.keys t.l).take k) ++ [44]) t.keys[k] (by exact D6.out.1) (by exact hB6) ?_ hkl.out).mono ?_
        · skip
          simp only [List.length_append, List.length_cons, List.length_nil]; omega
        rintro e w7 ⟨v7, rfl, hrow7, hbel7⟩
        have IB7 := hidI (hbel7.box (g := wr.heap.size) IB6.out)
        have D7 := hidI (And.intro hrow7 ((D6.out.2).trans hbel7))
        have hB7 : B ≤ w7.heap.size := Nat.le_trans hBr D7.out.2.size
        clear hrow7 hbel7
        have hl8 : ((acc ++ ([123] : List UInt8) ++ commaS ((pairS (printS d) t.keys t.l).take k) ++ [44] : List UInt8) ++ quoteS t.keys[k]).length ≤ 1000000000 := by
          skip
          simp only [List.length_append, List.length_cons, List.length_nil]; omega
        go_wp2_with (at_builtin; go_must (refine append_bytes rfl _ _ rfl B v7 _ [58] _ (by rfl) 1 rfl rfl rfl D7.out.1 hB7 hl8 (by decide) ?_); intro v8 w8 hown8 hgrow8; refine Hid.out ?_)
        refine hidI ?_
        obtain ⟨r0, r1, r2, r3, r4, -⟩ := (hgrow8.box IB7.out).c
        have D8 := hidI (And.intro hown8 (D7.out.2.trans hgrow8))
        have hB8 : B ≤ w8.heap.size := Nat.le_trans hBr D8.out.2.size
        clear hown8 hgrow8
        go_wp2_with fail
        refine (IH.out _ B v8 ((acc ++ ([123] : List UInt8) ++ commaS ((pairS (printS d) t.keys t.l).take k) ++ [44] : List UInt8) ++ quoteS t.keys[k] ++ ([58] : List UInt8)) t.l[k] _ (by exact G5.out.fr D8.out.2) hsx.out (by exact D8.out.1) hB8 (by exact HG.out.fr (A.out.2.trans D8.out.2) hgB) hgB ?_).mono ?_
        · skip
          simp only [List.length_append, List.length_cons, List.length_nil]; omega
        rintro e w5 ⟨v5, rfl, hrow5, hbel5⟩
        have D5 := hidI (And.intro hrow5 (D8.out.2.trans hbel5))
        clear hrow5 hbel5
        go_wp2_with fail
        go_roundg (t.l.length - (k + 1))
        case measure => omega
        case rel => exact ⟨k + 1, hlt, rfl, by go_num, by rw [take_step HX.out, commaS_snoc, if_neg h9.out]; simpa [commaS] using D5.out.1, A.out.2.trans D5.out.2, D5.out.2.box BX.out⟩
    · have hke : k = t.l.length := by omega
      subst hke
      have htk : Hid ((pairS (printS d) t.keys t.l).take t.l.length = pairS (printS d) t.keys t.l) := hidI (List.take_of_length_le (by simp only [pairS, List.length_zipWith]; omega))
      have hl9 : (acc ++ [123] ++ commaS ((pairS (printS d) t.keys t.l).take t.l.length)).length ≤ 1000000000 := by
        rw [htk.out]; simp only [List.length_append, List.length_cons, List.length_nil]; omega
      go_wp2_with (at_builtin; go_must (refine append_bytes rfl _ _ rfl B u0 _ [125] _ (by rfl) 1 rfl rfl rfl A.out.1 hBr hl9 (by decide) ?_); intro v5 w5 hown5 hgrow5; refine Hid.out ?_)
      refine hidI ?_
      have D5 := hidI (And.intro hown5 hgrow5)
      clear hown5 hgrow5
      go_wp2_with fail
      go_ret
      have h8 := D5.out.1
      rw [htk.out] at h8
      exact ⟨v5, rfl, by simpa using h8, A.out.2.trans D5.out.2⟩
end Go.Proofs.YtfbddgpekbhpfacGreatDoor

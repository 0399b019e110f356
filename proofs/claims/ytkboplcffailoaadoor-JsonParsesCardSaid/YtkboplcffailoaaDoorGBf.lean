/- What manyAt of package stairwellref does at an object. -/
import Derived.Test.YtkboplcffailoaaDoorGQc
import Derived.Test.YtkboplcffailoaaDoorUp
import Derived.Test.YtkboplcffailoaaDoorUc
import Derived.Test.YtkboplcffailoaaDoorFa
import Derived.Test.YtkboplcffailoaaDoorFo
import Derived.Test.YtkboplcffailoaaDoorXz
import Derived.Test.YtkboplcffailoaaDoorFw
/- What appendObject of package json does, if appendValue does what is said of it. -/
set_option linter.unusedSimpArgs false
set_option linter.unusedVariables false
namespace Go.Proofs.YtkboplcffailoaaDoor
open Go.RowKit

set_option maxRecDepth 100000 in
set_option maxHeartbeats 4000000 in
theorem appendObject_st (d : Nat) (ih : AppC d) (w : World) (B : Nat) (v : Value) (acc : List UInt8) (t : V) (val : Value) (hv : VIs w (fun k => k < B) (d + 1) t val) (hsm : SmallV (d + 1) t) (h : BRow w B v acc) (hB : B ≤ w.heap.size) (hG : Glob w) (hgB : 4 ≤ B)
    (hkd : t.kind ≠ 4) (hl : acc.length + (commaS (pairS (printS d) t.keys t.l)).length + 2 ≤ 100000000) :
    Calls Tryd.prog 50 #[v, val] w fun e w' => ∃ v', e = .returned v' ∧ BRow w' B v' (acc ++ (123 :: commaS (pairS (printS d) t.keys t.l) ++ [125])) ∧ Fr B w w' := by
  obtain ⟨a7, a8, c7, c8, rfl⟩ := hv.shape
  have HV := hidI hv
  have IH := hidI ih
  have H := hidI h
  have HG := hidI hG
  have HS := hidI hsm
  have l2 : t.l.length ≤ maxLen := by obtain ⟨ks, ls, e, h1, h2, h3, h4, h5⟩ := hv; exact h5.1
  have lk : t.l.length ≤ t.keys.length := hsm.2.1 hkd
  have lk2 : t.keys.length ≤ maxLen := by obtain ⟨ks, ls, e, h1, h2, h3, h4, h5⟩ := hv; exact h4.1
  unfold maxLen at l2 lk2
  clear hv ih h hG hsm
  have hB1 : B ≤ (w.alloc (.cells #[.int .i64 t.kind, .int .i64 t.n, .string ⟨t.s.toArray⟩, .slice a7 t.keys.length c7, .slice a8 t.l.length c8] 25)).heap.size := by simp; omega
  go_enter Tryd.func50, Tryd.ntmps50
  go_wp2_with (at_builtin; go_must (refine append_bytesG rfl _ _ rfl B v acc [123] _ (by rfl) 1 rfl rfl (w.heap.size + 1) (by simp) rfl (by exact H.out.alloc _) hB1 (by omega) (by decide) ?_); intro v4 w4 hown4 hgrow4; refine Hid.out ?_)
  refine hidI ?_
  have Q4 := hidI (hgrow4.box (g := w.heap.size) (heap_alloc_new w _))
  have q4 := Q4.out.c.2.2.2.2.1
  have D := hidI (And.intro hown4 ((fr_alloc w B _ hB).trans hgrow4))
  clear hown4 hgrow4
  go_wp2_with fail
  go_loopg [0, 13] t.l.length (fun gk u i wr => ∃ (k : Nat), k ≤ t.l.length ∧ gk = t.l.length - k ∧ i = .int .i64 k ∧ BRow wr B u (acc ++ [123] ++ commaS ((pairS (printS d) t.keys t.l).take k)) ∧ Fr B w wr ∧ BoxIs wr w.heap.size (.int .i64 t.kind) (.int .i64 t.n) (.string ⟨t.s.toArray⟩) (.slice a7 t.keys.length c7) (.slice a8 t.l.length c8))
  case atStart => exact ⟨0, Nat.zero_le _, rfl, rfl, by simpa [commaS] using D.out.1, D.out.2, Q4.out⟩
  case round =>
    obtain ⟨k, hk, hgk, rfl, hrow, hbel, hbox⟩ := hrel
    have A := hidI (And.intro hrow hbel)
    have BX := hidI hbox
    have hBr : B ≤ wr.heap.size := Nat.le_trans hB hbel.size
    clear hrow hbel hbox q4
    by_cases hlt : k < t.l.length
    · have hlk : k < t.keys.length := by omega
      have hvr := HV.out.fr A.out.2
      have hxm : (pairS (printS d) t.keys t.l)[k]? = some (quoteS t.keys[k] ++ 58 :: printS d t.l[k]) := by simp [pairS, List.getElem?_zipWith, hlt, hlk]
      have hpl := part_len hxm
      have HX := hidI hxm
      clear hxm
      obtain ⟨ks, ls, e, -, -, -, h4, h5⟩ := hvr
      simp only [Value.agg.injEq, Array.mk.injEq, List.cons.injEq, and_true] at e
      obtain ⟨-, -, -, rfl, rfl⟩ := e
      obtain ⟨_, h5⟩ := h5
      rcases h5 with ⟨e, _⟩ | ⟨b, off, c, hls, hc1, hc2, hcs⟩
      · rw [e] at hlt; simp at hlt
      simp only [Value.slice.injEq] at hls
      obtain ⟨rfl, -, rfl⟩ := hls
      obtain ⟨v0, v1, v2, v3, v4', g', g0, g1, g2, g3, g4, g5⟩ := hcs k t.l[k] (List.getElem?_eq_getElem hlt)
      have G5 := hidI g5
      obtain ⟨rfl, rfl, rfl, ⟨a5, c5, rfl⟩, ⟨a6, c6, rfl⟩⟩ := g5.agg
      clear hcs g5
      unfold maxLen at hc2
      have hsx : Hid (SmallV d t.l[k]) := HS.out.2.2.2 _ (List.getElem_mem hlt)
      have hBr1 : ∀ o, B ≤ (wr.alloc o).heap.size := fun o => by simp; omega
      have hkl : Hid (t.keys[k].length ≤ 1000000) := hidI (Nat.le_trans (HS.out.2.2.1 _ (List.getElem_mem hlk)) (by decide))
      have hbxs : w.heap.size < wr.heap.size := BX.out.lt
      obtain ⟨b2, off2, rfl, kcell, hb2⟩ : ∃ b2 off2, a7 = some ⟨b2, off2, none⟩ ∧ wr.cell? ⟨b2, off2 + k, none⟩ = some (.string ⟨t.keys[k].toArray⟩) ∧ b2 < B := by
        rcases h4.2 with ⟨e, _⟩ | ⟨b2, off2, c2, e, -, -, hcs2⟩
        · rw [e] at hlk; simp at hlk
        · simp only [Value.slice.injEq] at e
          obtain ⟨rfl, -, -⟩ := e
          obtain ⟨-, g1, g2⟩ := hcs2 k t.keys[k] (List.getElem?_eq_getElem hlk)
          exact ⟨b2, off2, rfl, g2, g1⟩
      clear h4
      have KC : Hid (∀ w', Fr B wr w' → w'.cell? ⟨b2, off2 + k, none⟩ = some (.string ⟨t.keys[k].toArray⟩)) := fun w' hf => (World.cell?_of_block (hf.1.block _ hb2)).trans kcell
      have hpl' := hpl
      simp only [List.length_append, List.length_cons] at hpl'
      clear hpl
      by_cases hk0 : k = 0
      · subst hk0
        simp only [Nat.zero_mul, Nat.add_zero] at g0 g1 g2 g3 g4
        have kq : ∀ o, (wr.alloc o).cell? ⟨b2, off2, none⟩ = some (.string ⟨t.keys[0].toArray⟩) := fun o => KC.out _ (fr_alloc _ _ _ hBr)
        have x3 : ∀ o, (wr.alloc o).cell? ⟨w.heap.size, 3, none⟩ = some (.slice (some ⟨b2, off2, none⟩) t.keys.length c7) := fun o => ((fr_alloc wr B o hBr).box BX.out).c.2.2.2.1
        have x3' := BX.out.c.2.2.2.1
        simp only [Nat.add_zero] at kcell
        simp only [if_true] at hpl'
        go_wp2_with fail
        refine (appendQuoted_at _ B u0 (acc ++ [123] ++ commaS ((pairS (printS d) t.keys t.l).take 0)) t.keys[0] (by exact A.out.1.alloc _) (by exact hBr1 _) ?_ hkl.out).mono ?_
        · skip
          simp only [List.length_append, List.length_cons, List.length_nil]; omega
        rintro e w7 ⟨v7, rfl, hrow7, hbel7⟩
        have IB7 := hidI (hbel7.box (g := wr.heap.size) (heap_alloc_new wr _))
        have D7 := hidI (And.intro hrow7 ((fr_alloc wr B _ hBr).trans hbel7))
        have hB7 : B ≤ w7.heap.size := Nat.le_trans hBr D7.out.2.size
        clear hrow7 hbel7
        have hl8 : ((acc ++ ([123] : List UInt8) ++ commaS ((pairS (printS d) t.keys t.l).take 0) : List UInt8) ++ quoteS t.keys[0]).length ≤ 1000000000 := by
          skip
          simp only [List.length_append, List.length_cons, List.length_nil]; omega
        go_wp2_with (at_builtin; go_must (refine append_bytes rfl _ _ rfl B v7 _ [58] _ (by rfl) 1 rfl rfl rfl D7.out.1 hB7 hl8 (by decide) ?_); intro v8 w8 hown8 hgrow8; refine Hid.out ?_)
        refine hidI ?_
        obtain ⟨r0, r1, r2, r3, r4, -⟩ := (hgrow8.box IB7.out).c
        have D8 := hidI (And.intro hown8 (D7.out.2.trans hgrow8))
        have hB8 : B ≤ w8.heap.size := Nat.le_trans hBr D8.out.2.size
        clear hown8 hgrow8
        go_wp2_with fail
        refine (IH.out _ B v8 ((acc ++ ([123] : List UInt8) ++ commaS ((pairS (printS d) t.keys t.l).take 0) : List UInt8) ++ quoteS t.keys[0] ++ ([58] : List UInt8)) t.l[0] _ (by exact G5.out.fr D8.out.2) hsx.out (by exact D8.out.1) hB8 (by exact HG.out.fr (A.out.2.trans D8.out.2) hgB) hgB ?_).mono ?_
        · skip
          simp only [List.length_append, List.length_cons, List.length_nil]; omega
        rintro e w5 ⟨v5, rfl, hrow5, hbel5⟩
        have D5 := hidI (And.intro hrow5 (D8.out.2.trans hbel5))
        clear hrow5 hbel5
        go_wp2_with fail
        go_roundg (t.l.length - (0 + 1))
        case measure => omega
        case rel => exact ⟨0 + 1, hlt, rfl, by go_num, by rw [take_step HX.out, commaS_snoc]; simpa [commaS] using D5.out.1, A.out.2.trans D5.out.2, D5.out.2.box BX.out⟩
      · have hk1 : 0 < (k : Int) := by omega
        have h9 : Hid ((pairS (printS d) t.keys t.l).take k ≠ []) := by
          intro e; have := congrArg List.length e; simp only [List.length_take, pairS, List.length_zipWith, List.length_nil] at this; omega
        simp only [if_neg hk0] at hpl'
        have hl9 : (acc ++ [123] ++ commaS ((pairS (printS d) t.keys t.l).take k)).length ≤ 1000000000 := by
          simp only [List.length_append, List.length_cons, List.length_nil]; omega
        go_wp2_with (at_builtin; go_must (refine append_bytesG rfl _ _ rfl B u0 _ [44] _ (by rfl) 1 rfl rfl (wr.heap.size + 1) (by simp) rfl (by exact A.out.1.alloc _) (hBr1 _) hl9 (by decide) ?_); intro v6 w6 hown6 hgrow6; refine Hid.out ?_)
        refine hidI ?_
        have IB6 := hidI (hgrow6.box (g := wr.heap.size) (heap_alloc_new wr _))
        have D6 := hidI (And.intro hown6 ((fr_alloc wr B _ hBr).trans hgrow6))
        have hB6 : B ≤ w6.heap.size := Nat.le_trans hBr D6.out.2.size
        have kq := KC.out _ D6.out.2
        have x3 := (D6.out.2.box BX.out).c.2.2.2.1
        clear hown6 hgrow6
        go_wp2_with fail
        refine (appendQuoted_at _ B v6 (acc ++ [123] ++ commaS ((pairS (printS d) t.keys t.l).take k) ++ [44]) t.keys[k] (by exact D6.out.1) (by exact hB6) ?_ hkl.out).mono ?_
        · skip
          simp only [List.length_append, List.length_cons, List.length_nil]; omega
        rintro e w7 ⟨v7, rfl, hrow7, hbel7⟩
        have IB7 := hidI (hbel7.box (g := wr.heap.size) IB6.out)
        have D7 := hidI (And.intro hrow7 ((D6.out.2).trans hbel7))
        have hB7 : B ≤ w7.heap.size := Nat.le_trans hBr D7.out.2.size
        clear hrow7 hbel7
        have hl8 : ((acc ++ ([123] : List UInt8) ++ commaS ((pairS (printS d) t.keys t.l).take k) ++ [44] : List UInt8) ++ quoteS t.keys[k]).length ≤ 1000000000 := by
          skip
          simp only [List.length_append, List.length_cons, List.length_nil]; omega
        go_wp2_with (at_builtin; go_must (refine append_bytes rfl _ _ rfl B v7 _ [58] _ (by rfl) 1 rfl rfl rfl D7.out.1 hB7 hl8 (by decide) ?_); intro v8 w8 hown8 hgrow8; refine Hid.out ?_)
        refine hidI ?_
        obtain ⟨r0, r1, r2, r3, r4, -⟩ := (hgrow8.box IB7.out).c
        have D8 := hidI (And.intro hown8 (D7.out.2.trans hgrow8))
        have hB8 : B ≤ w8.heap.size := Nat.le_trans hBr D8.out.2.size
        clear hown8 hgrow8
        go_wp2_with fail
        refine (IH.out _ B v8 ((acc ++ ([123] : List UInt8) ++ commaS ((pairS (printS d) t.keys t.l).take k) ++ [44] : List UInt8) ++ quoteS t.keys[k] ++ ([58] : List UInt8)) t.l[k] _ (by exact G5.out.fr D8.out.2) hsx.out (by exact D8.out.1) hB8 (by exact HG.out.fr (A.out.2.trans D8.out.2) hgB) hgB ?_).mono ?_
        · skip
          simp only [List.length_append, List.length_cons, List.length_nil]; omega
        rintro e w5 ⟨v5, rfl, hrow5, hbel5⟩
        have D5 := hidI (And.intro hrow5 (D8.out.2.trans hbel5))
        clear hrow5 hbel5
        go_wp2_with fail
        go_roundg (t.l.length - (k + 1))
        case measure => omega
        case rel => exact ⟨k + 1, hlt, rfl, by go_num, by rw [take_step HX.out, commaS_snoc, if_neg h9.out]; simpa [commaS] using D5.out.1, A.out.2.trans D5.out.2, D5.out.2.box BX.out⟩
    · have hke : k = t.l.length := by omega
      subst hke
      have htk : Hid ((pairS (printS d) t.keys t.l).take t.l.length = pairS (printS d) t.keys t.l) := hidI (List.take_of_length_le (by simp only [pairS, List.length_zipWith]; omega))
      have hl9 : (acc ++ [123] ++ commaS ((pairS (printS d) t.keys t.l).take t.l.length)).length ≤ 1000000000 := by
        rw [htk.out]; simp only [List.length_append, List.length_cons, List.length_nil]; omega
      go_wp2_with (at_builtin; go_must (refine append_bytes rfl _ _ rfl B u0 _ [125] _ (by rfl) 1 rfl rfl rfl A.out.1 hBr hl9 (by decide) ?_); intro v5 w5 hown5 hgrow5; refine Hid.out ?_)
      refine hidI ?_
      have D5 := hidI (And.intro hown5 hgrow5)
      clear hown5 hgrow5
      go_wp2_with fail
      go_ret
      have h8 := D5.out.1
      rw [htk.out] at h8
      exact ⟨v5, rfl, by simpa using h8, A.out.2.trans D5.out.2⟩
end Go.Proofs.YtkboplcffailoaaDoor

/- What appendValue of package json does, and Print. -/
set_option linter.unusedSimpArgs false
set_option linter.unusedVariables false
namespace Go.Proofs.YtkboplcffailoaaDoor
open Go.RowKit

theorem tab_below {w : World} {B : Nat} (hG : Glob w) (hB : 4 ≤ B) : Lib.TabBelow Tryd.prog B w "internal/strconv.uint64pow10" .u64 Lib.pow10Tab := by
  intro w' hb
  obtain ⟨_, _, t3, f3, h3⟩ := hG
  have h4 := (hb.block 3 (by omega)).trans h3
  unfold Lib.TabIs World.var?
  rw [show Program.globalNamed Tryd.prog _ = some 3 from by kernel_rfl]
  simp [h4]
theorem appendInt_at (w : World) (B : Nat) (v : Value) (acc : List UInt8) (n : Int) (hn : I64 n) (h : BRow w B v acc) (hB : B ≤ w.heap.size) (hl : acc.length ≤ 1000000000) (hG : Glob w) (hgB : 4 ≤ B) :
    Calls Tryd.prog 47 #[v, .int .i64 n, .int .i64 10] w fun e w' => ∃ v', e = .returned v' ∧ BRow w' B v' (acc ++ Lib.itoa n) ∧ Fr B w w' := by
  refine (Tryd.strconv_AppendInt_10 B acc.length n hn.1 hn.2 v (Lib.byteCells acc) w h hB (by omega) (tab_below hG hgB)).mono ?_
  rintro e w' ⟨v', rfl, h1, h2, h3⟩
  rw [cells_append, ← List.length_append] at h1
  exact ⟨v', rfl, h1, h2, h3⟩

theorem app_zero : AppC 0 := fun _ _ _ _ _ _ hv => hv.elim
set_option maxRecDepth 100000 in
set_option maxHeartbeats 4000000 in
theorem app_succ (d : Nat) (ih : AppC d) : AppC (d + 1) := by
  intro w B v acc t val hv hsm h hB hG hgB hl
  have HV := hidI hv
  have IH := hidI ih
  have H := hidI h
  have HG := hidI hG
  have HS := hidI hsm
  obtain ⟨a7, a8, c7, c8, rfl⟩ := hv.shape
  have hn : I64 t.n := by obtain ⟨ks, ls, e, h1, h2, h3, h4, h5⟩ := hv; exact h2
  have HN := hidI hn
  have hs6 := hsm.1
  clear hv ih h hG hsm hn
  have hB1 : B ≤ (w.alloc (.cells #[.int .i64 t.kind, .int .i64 t.n, .string ⟨t.s.toArray⟩, .slice a7 t.keys.length c7, .slice a8 t.l.length c8] 25)).heap.size := by simp; omega
  have F1 : Hid (Fr B w (w.alloc (.cells #[.int .i64 t.kind, .int .i64 t.n, .string ⟨t.s.toArray⟩, .slice a7 t.keys.length c7, .slice a8 t.l.length c8] 25))) := fr_alloc _ _ _ hB
  have hla : acc.length ≤ 1000000000 := by omega
  by_cases k0 : t.kind = 0
  · have e0 : (t.kind == 0) = true := by simp [k0]
    have P : Hid (printS (d + 1) t = [110, 117, 108, 108]) := hidI (by simp [printS, k0])
    rw [P.out] at hl
    have K := hidI k0
    clear k0
    go_enter Tryd.func30, Tryd.ntmps30
    go_wp2_with (at_builtin; go_must (refine append_text rfl _ _ rfl B v acc [110, 117, 108, 108] rfl rfl (by exact H.out.alloc _) hB1 hla (by decide) ?_); intro v4 w4 hown4 hgrow4; refine Hid.out ?_)
    refine hidI ?_
    have D := hidI (And.intro hown4 (F1.out.trans hgrow4))
    clear hown4 hgrow4
    go_wp2_with fail
    go_ret
    exact ⟨v4, rfl, by rw [P.out]; exact D.out.1, D.out.2⟩
  by_cases k1 : t.kind = 1
  · have e1 : (t.kind == 1) = true := by simp [k1]
    have f0 : (t.kind == 0) = false := by simp [k1]
    have P : Hid (printS (d + 1) t = boolS (t.n == 1)) := hidI (by simp [printS, k1])
    rw [P.out] at hl
    have K := hidI k1
    clear k1
    go_enter Tryd.func30, Tryd.ntmps30
    go_wp2_with fail
    refine (appendBool_at _ B v acc (t.n == 1) (by exact H.out.alloc _) (by exact hB1) hla).mono ?_
    rintro e w4 ⟨v4, rfl, hown4, hgrow4⟩
    have D := hidI (And.intro hown4 (F1.out.trans hgrow4))
    clear hown4 hgrow4
    go_wp2_with fail
    go_ret
    exact ⟨v4, rfl, by rw [P.out]; exact D.out.1, D.out.2⟩
  by_cases k2 : t.kind = 2
  · have e2 : (t.kind == 2) = true := by simp [k2]
    have f0 : (t.kind == 0) = false := by simp [k2]
    have f1 : (t.kind == 1) = false := by simp [k2]
    have P : Hid (printS (d + 1) t = Lib.itoa t.n) := hidI (by simp [printS, k2])
    rw [P.out] at hl
    have K := hidI k2
    clear k2
    go_enter Tryd.func30, Tryd.ntmps30
    go_wp2_with fail
    refine (appendInt_at _ B v acc t.n HN.out (by exact H.out.alloc _) (by exact hB1) hla (by exact HG.out.fr F1.out hgB) hgB).mono ?_
    rintro e w4 ⟨v4, rfl, hown4, hgrow4⟩
    have D := hidI (And.intro hown4 (F1.out.trans hgrow4))
    clear hown4 hgrow4
    go_wp2_with fail
    go_ret
    exact ⟨v4, rfl, by rw [P.out]; exact D.out.1, D.out.2⟩
  by_cases k3 : t.kind = 3
  · have e3 : (t.kind == 3) = true := by simp [k3]
    have f0 : (t.kind == 0) = false := by simp [k3]
    have f1 : (t.kind == 1) = false := by simp [k3]
    have f2 : (t.kind == 2) = false := by simp [k3]
    have P : Hid (printS (d + 1) t = quoteS t.s) := hidI (by simp [printS, k3])
    rw [P.out] at hl
    have K := hidI k3
    clear k3
    go_enter Tryd.func30, Tryd.ntmps30
    go_wp2_with fail
    refine (appendQuoted_at _ B v acc t.s (by exact H.out.alloc _) (by exact hB1) (by omega) (by omega)).mono ?_
    rintro e w4 ⟨v4, rfl, hown4, hgrow4⟩
    have D := hidI (And.intro hown4 (F1.out.trans hgrow4))
    clear hown4 hgrow4
    go_wp2_with fail
    go_ret
    exact ⟨v4, rfl, by rw [P.out]; exact D.out.1, D.out.2⟩
  by_cases k4 : t.kind = 4
  · have e4 : (t.kind == 4) = true := by simp [k4]
    have f0 : (t.kind == 0) = false := by simp [k4]
    have f1 : (t.kind == 1) = false := by simp [k4]
    have f2 : (t.kind == 2) = false := by simp [k4]
    have f3 : (t.kind == 3) = false := by simp [k4]
    have P : Hid (printS (d + 1) t = 91 :: commaS (t.l.map (printS d)) ++ [93]) := hidI (by simp [printS, k4])
    rw [P.out] at hl
    have K := hidI k4
    clear k4
    go_enter Tryd.func30, Tryd.ntmps30
    go_wp2_with fail
    refine (appendList_st d IH.out _ B v acc t _ (by exact HV.out.fr F1.out) HS.out (by exact H.out.alloc _) (by exact hB1) (by exact HG.out.fr F1.out hgB) hgB (by simp only [List.length_append, List.length_cons, List.length_nil] at hl; omega)).mono ?_
    rintro e w4 ⟨v4, rfl, hown4, hgrow4⟩
    have D := hidI (And.intro hown4 (F1.out.trans hgrow4))
    clear hown4 hgrow4
    go_wp2_with fail
    go_ret
    exact ⟨v4, rfl, by rw [P.out]; exact D.out.1, D.out.2⟩
  have f0 : (t.kind == 0) = false := by rw [beq_eq_false_iff_ne]; exact k0
  have f1 : (t.kind == 1) = false := by rw [beq_eq_false_iff_ne]; exact k1
  have f2 : (t.kind == 2) = false := by rw [beq_eq_false_iff_ne]; exact k2
  have f3 : (t.kind == 3) = false := by rw [beq_eq_false_iff_ne]; exact k3
  have f4 : (t.kind == 4) = false := by rw [beq_eq_false_iff_ne]; exact k4
  have P : Hid (printS (d + 1) t = 123 :: commaS (pairS (printS d) t.keys t.l) ++ [125]) := hidI (by simp only [printS, if_neg k0, if_neg k1, if_neg k2, if_neg k3, if_neg k4])
  rw [P.out] at hl
  have K4 := hidI k4
  clear k0 k1 k2 k3 k4
  go_enter Tryd.func30, Tryd.ntmps30
  go_wp2_with fail
  refine (appendObject_st d IH.out _ B v acc t _ (by exact HV.out.fr F1.out) HS.out (by exact H.out.alloc _) (by exact hB1) (by exact HG.out.fr F1.out hgB) hgB K4.out (by simp only [List.length_append, List.length_cons, List.length_nil] at hl; omega)).mono ?_
  rintro e w4 ⟨v4, rfl, hown4, hgrow4⟩
  have D := hidI (And.intro hown4 (F1.out.trans hgrow4))
  clear hown4 hgrow4
  go_wp2_with fail
  go_ret
  exact ⟨v4, rfl, by rw [P.out]; exact D.out.1, D.out.2⟩
theorem app_all (d : Nat) : AppC d := by
  induction d with
  | zero => exact app_zero
  | succ d ih => exact app_succ d ih
end Go.Proofs.YtkboplcffailoaaDoor

/- What Print of package json does. -/
set_option linter.unusedSimpArgs false
set_option linter.unusedVariables false
namespace Go.Proofs.YtkboplcffailoaaDoor
open Go.RowKit

theorem rise_len : ∀ (ks : List (List UInt8)) (p : Option (List UInt8)), riseFrom p ks = true → ∀ k ∈ ks, k.length ≤ 60
  | [], _, _, k, hk => by simp at hk
  | x :: ks, p, h, k, hk => by
    simp only [riseFrom, Bool.and_eq_true] at h
    rcases List.mem_cons.1 hk with rfl | hk
    · have := h.1.1; simp only [plainB, Bool.and_eq_true, decide_eq_true_eq] at this; exact this.1
    · exact rise_len ks _ h.2 k hk
theorem shaped_small {t : V} (h : shapedB t = true) : t.s.length ≤ 60 ∧ (t.kind ≠ 4 → t.l.length ≤ t.keys.length) ∧ (∀ k ∈ t.keys, k.length ≤ 60) ∧ -9007199254740992 ≤ t.n ∧ t.n ≤ 9007199254740992 := by
  have nk : t.keys.length = 0 → ∀ k ∈ t.keys, k.length ≤ 60 := fun e k hk => by rw [List.eq_nil_of_length_eq_zero e] at hk; simp at hk
  unfold shapedB at h
  split at h
  · simp only [listlessB, Bool.and_eq_true, decide_eq_true_eq] at h
    obtain ⟨⟨h1, h2⟩, h3, h4⟩ := h
    exact ⟨by rw [h2]; simp, fun _ => by omega, nk h3, by omega, by omega⟩
  split at h
  · simp only [listlessB, Bool.and_eq_true, Bool.or_eq_true, decide_eq_true_eq] at h
    obtain ⟨⟨h1, h2⟩, h3, h4⟩ := h
    exact ⟨by rw [h2]; simp, fun _ => by omega, nk h3, by omega, by omega⟩
  split at h
  · simp only [listlessB, Bool.and_eq_true, decide_eq_true_eq] at h
    obtain ⟨⟨⟨h0, h1⟩, h2⟩, h3, h4⟩ := h
    exact ⟨by rw [h2]; simp, fun _ => by omega, nk h3, by omega, by omega⟩
  split at h
  · simp only [listlessB, plainB, Bool.and_eq_true, decide_eq_true_eq] at h
    obtain ⟨⟨h1, h2, _⟩, h3, h4⟩ := h
    exact ⟨h2, fun _ => by omega, nk h3, by omega, by omega⟩
  split at h
  · rename_i hk
    simp only [Bool.and_eq_true, decide_eq_true_eq] at h
    obtain ⟨⟨h1, h2⟩, h3⟩ := h
    exact ⟨by rw [h2]; simp, fun e => absurd hk e, nk h3, by omega, by omega⟩
  split at h
  · simp only [Bool.and_eq_true, decide_eq_true_eq] at h
    obtain ⟨⟨⟨h1, h2⟩, h3⟩, h4⟩ := h
    exact ⟨by rw [h2]; simp, fun _ => by omega, rise_len _ _ h4, by omega, by omega⟩
  · cases h
theorem good_small (d : Nat) : ∀ (D : Nat) (t : V) (r p : Int), goodS D t r = (true, p) → SmallV d t := by
  induction d with
  | zero => intro D t r p _; trivial
  | succ d ih =>
    intro D t r p h
    obtain ⟨D', rfl, hs, h0, hf⟩ := goodS_succ h
    obtain ⟨s1, s2, s3, -, -⟩ := shaped_small hs
    refine ⟨by omega, s2, fun k hk => Nat.le_trans (s3 k hk) (by decide), ?_⟩
    have : ∀ (l : List V) (r p : Int), gfold D' l r = (true, p) → ∀ x ∈ l, SmallV d x := by
      intro l
      induction l with
      | nil => intro r p _ x hx; simp at hx
      | cons y l ihl =>
        intro r p hf x hx
        obtain ⟨q, h1, h2⟩ := gfold_cons hf
        rcases List.mem_cons.1 hx with rfl | hx
        · exact ih D' _ r q h1
        · exact ihl q p h2 x hx
    exact this t.l _ _ hf
theorem comma_len (x : List UInt8) (xs : List (List UInt8)) : (commaS (x :: xs)).length ≤ x.length + 1 + (commaS xs).length := by
  cases xs with
  | nil => simp [commaS]
  | cons y ys => simp only [commaS, List.length_append, List.length_cons]; omega
theorem quote_len (s : List UInt8) (h : s.length ≤ 60) : (quoteS s).length ≤ 362 := by
  have := flat_len s
  simp only [quoteS, List.length_append, List.length_cons, List.length_nil]; omega
theorem good_len (d : Nat) : ∀ (D : Nat) (t : V) (r p : Int), 0 ≤ r → goodS D t r = (true, p) → ((printS d t).length : Int) + 400 ≤ 1000 * (r - p) := by
  induction d with
  | zero =>
    intro D t r p hr h
    obtain ⟨D', rfl, hs, h0, hf⟩ := goodS_succ h
    have := (fold_room (goodS_room D') t.l (r - 1) h0).2.1
    have e : (gfold D' t.l (r - 1)).2 = p := by rw [hf]
    unfold gfold at e
    rw [e] at this
    simp only [printS, List.length_nil]; omega
  | succ d ih =>
    intro D t r p hr h
    obtain ⟨D', rfl, hs, h0, hf⟩ := goodS_succ h
    have hp : p ≤ r - 1 := by
      have := (fold_room (goodS_room D') t.l (r - 1) h0).2.1
      have e : (gfold D' t.l (r - 1)).2 = p := by rw [hf]
      unfold gfold at e
      rwa [e] at this
    obtain ⟨s1, s2, s3, s4, s5⟩ := shaped_small hs
    have sums : ∀ (l : List V) (ks : List (List UInt8)) (r p : Int), 0 ≤ r → (∀ k ∈ ks, k.length ≤ 60) → gfold D' l r = (true, p) → ((commaS (l.map (printS d))).length : Int) ≤ 1000 * (r - p) ∧ ((commaS (pairS (printS d) ks l)).length : Int) ≤ 1000 * (r - p) := by
      intro l
      induction l with
      | nil =>
        intro ks r p _ _ hf
        have e : (true, r) = (true, p) := hf
        cases e
        simp [commaS, pairS]
      | cons x l ihl =>
        intro ks r p hr hks hf
        obtain ⟨q, h1, h2⟩ := gfold_cons hf
        have g1 := ih D' x r q hr h1
        have hq : 0 ≤ q := by have := (goodS_room D' x r hr).2.2; rw [h1] at this; exact this rfl
        constructor
        · obtain ⟨g2, -⟩ := ihl [] q p hq (by simp) h2
          have := comma_len (printS d x) (l.map (printS d))
          simp only [List.map_cons]; omega
        · cases ks with
          | nil =>
            obtain ⟨-, g2⟩ := ihl [] q p hq (by simp) h2
            simp only [pairS, List.zipWith_nil_left, commaS, List.length_nil] at g2 ⊢
            omega
          | cons k ks =>
            obtain ⟨-, g2⟩ := ihl ks q p hq (fun j hj => hks j (List.mem_cons_of_mem _ hj)) h2
            have := comma_len (quoteS k ++ 58 :: printS d x) (pairS (printS d) ks l)
            have h9 := quote_len k (hks k (List.mem_cons_self ..))
            simp only [List.length_append, List.length_cons] at this
            simp only [pairS, List.zipWith_cons_cons] at this g2 ⊢
            omega
    obtain ⟨m1, m2⟩ := sums t.l t.keys (r - 1) p h0 s3 hf
    have hi := Lib.itoa_length_le t.n (by omega) (by omega)
    have hq := quote_len t.s s1
    simp only [printS]
    split
    · simp only [List.length_cons, List.length_nil]; omega
    split
    · unfold boolS; split <;> simp only [List.length_cons, List.length_nil] <;> omega
    split
    · omega
    split
    · omega
    split
    · simp only [List.length_append, List.length_cons, List.length_nil]; omega
    · simp only [List.length_append, List.length_cons, List.length_nil]; omega

def printR (d : Nat) (t : V) : List UInt8 × Int := if goodV t then (if (printS d t).length ≤ 2000 then (printS d t, 0) else ([], 2)) else ([], 1)

set_option maxRecDepth 100000 in
set_option maxHeartbeats 4000000 in
theorem Print_at (w : World) (ok : Nat → Prop) (d : Nat) (t : V) (v : Value) (h : VIs w ok d t v) (hG : Glob w) :
    Calls Tryd.prog 14 #[v] w fun e w' => ∃ (l : List UInt8) (ee : Int), e = .returned (.tuple #[.string ⟨l.toArray⟩, .int .i64 ee]) ∧ printR d t = (l, ee) ∧ Below w.heap.size w w' := by
  obtain ⟨a7, a8, c7, c8, rfl⟩ := h.shape
  have HV := hidI h
  have HG := hidI hG
  clear h hG
  cases hgd : goodV t with
  | false =>
    have P : Hid (printR d t = ([], 1)) := hidI (by simp [printR, hgd])
    have HGD := hidI hgd
    clear hgd
    go_enter Tryd.func14, Tryd.ntmps14
    go_wp2_with fail
    refine (Good_at _ ok d t _ (by exact HV.out.bel (bel_alloc _ _))).mono ?_
    rintro e w2 ⟨rfl, hb2⟩
    rw [HGD.out]
    have B2 := hidI (bel_trans (bel_alloc w _) hb2)
    clear hb2
    go_wp2_with fail
    refine bodyPost_ret (v := .tuple #[.string ⟨#[]⟩, .int .i64 1]) (by simp [results, Tryd.results14, go_sem] <;> rfl) rfl ?_
    exact ⟨[], 1, rfl, P.out, B2.out⟩
  | true =>
    have HGD := hidI hgd
    have P : Hid (printR d t = if (printS d t).length ≤ 2000 then (printS d t, 0) else ([], 2)) := hidI (by simp [printR, hgd])
    have hg : goodS 12 t 120 = (true, (goodS 12 t 120).2) := by unfold goodV at hgd; rw [← hgd]
    have hln : ((printS d t).length : Int) ≤ 122000 := by
      have h1 := good_len d 12 t 120 _ (by decide) hg
      have h2 := (goodS_room 12 t 120 (by decide)).1
      omega
    have SM : Hid (SmallV d t) := good_small d 12 t 120 _ hg
    clear hgd hg
    go_enter Tryd.func14, Tryd.ntmps14
    go_wp2_with fail
    refine (Good_at _ ok d t _ (by exact HV.out.bel (bel_alloc _ _))).mono ?_
    rintro e w2 ⟨rfl, hb2⟩
    rw [HGD.out]
    obtain ⟨p0, p1, p2, p3, p4, -⟩ := (box_bel hb2 (heap_alloc_new w _)).c
    have V2 := hidI ((HV.out.bel (bel_trans (bel_alloc w _) hb2)).below.weak (ok' := fun k => k < w2.heap.size) fun k hk => hk.2)
    have B2 := hidI (bel_trans (bel_alloc w _) hb2)
    have G2 : Hid (Glob w2) := HG.out.grown (gb_below (r := none) B2.out) (by simp)
    have hsz := G2.out.size
    clear hb2
    go_wp2_with fail
    refine (app_all d w2 w2.heap.size (.slice none 0 0) [] t _ V2.out SM.out (BRow.nil _ _) (Nat.le_refl _) G2.out hsz (by simp only [List.length_nil]; omega)).mono ?_
    rintro e w3 ⟨v3, rfl, h3, hb3⟩
    rw [List.nil_append] at h3
    have B3 : Hid (Below w.heap.size w w3) := bel_trans B2.out hb3.1
    clear hb3
    rcases h3.2 with ⟨hv, hn⟩ | ⟨g, cap, cur, hv, -, -, hn1, hn2, -, -⟩
    · subst hv
      have hnil : printS d t = [] := List.eq_nil_of_length_eq_zero hn
      have hcv := run_convert_bytes_nil (P := Tryd.prog) (w := w3) 51 5 Tryd.underlying51 Tryd.underlying5 0 0
      have HN := hidI hnil
      clear h3 hn hnil
      go_wp2_with fail
      refine bodyPost_ret (v := .tuple #[.string ⟨#[]⟩, .int .i64 0]) (by simp [results, Tryd.results14, go_sem] <;> rfl) rfl ?_
      exact ⟨[], 0, rfl, by rw [P.out, HN.out]; rfl, B3.out⟩
    · subst hv
      unfold maxLen at hn2
      have hcv := run_convert_bytes_back (P := Tryd.prog) w3 51 9 5 ⟨g, 0, none⟩ cap (printS d t) Tryd.underlying51 Tryd.underlying5 Tryd.underlying9 (fun j hj => World.ownsRow.cells h3 (g := g) rfl j _ (by simp [Lib.byteCells, hj]))
      clear h3
      by_cases hle : (printS d t).length ≤ 2000
      · have c1 : ¬ (2000 < ((printS d t).length : Int)) := by omega
        go_wp2_with fail
        refine bodyPost_ret (v := .tuple #[.string ⟨(printS d t).toArray⟩, .int .i64 0]) (by simp [results, Tryd.results14, go_sem] <;> rfl) rfl ?_
        exact ⟨printS d t, 0, rfl, by rw [P.out, if_pos hle], B3.out⟩
      · have c1 : 2000 < ((printS d t).length : Int) := by omega
        clear hcv
        go_wp2_with fail
        refine bodyPost_ret (v := .tuple #[.string ⟨#[]⟩, .int .i64 2]) (by simp [results, Tryd.results14, go_sem] <;> rfl) rfl ?_
        exact ⟨[], 2, rfl, by rw [P.out, if_neg hle], B3.out⟩
end Go.Proofs.YtkboplcffailoaaDoor

/- What is printed of a good value is read as it. -/
set_option linter.unusedSimpArgs false
set_option linter.unusedVariables false
namespace Go.Proofs.YtkboplcffailoaaDoor
open Go.RowKit

theorem zip_congr {f g : V → List UInt8} {ks : List (List UInt8)} {l : List V} (h : ∀ x ∈ l, f x = g x) : pairS f ks l = pairS g ks l := by
  unfold pairS
  induction ks generalizing l with
  | nil => rfl
  | cons k ks ih =>
    cases l with
    | nil => rfl
    | cons x l =>
      rw [List.zipWith_cons_cons, List.zipWith_cons_cons, h x (by simp), ih fun y hy => h y (by simp [hy])]
theorem printS_fuel (d : Nat) : ∀ (d' : Nat) (t : V), Dep d t → Dep d' t → printS d t = printS d' t := by
  induction d with
  | zero => intro d' t h; exact h.elim
  | succ d ih =>
    intro d' t h h'
    cases d' with
    | zero => exact h'.elim
    | succ d' =>
      have e : ∀ x ∈ t.l, printS d x = printS d' x := fun x hx => ih d' x (h x hx) (h' x hx)
      simp only [printS]
      rw [List.map_congr_left e, zip_congr e]

/- Numbers. -/
theorem parseUint_append (l r : List UInt8) : ∀ (a u : Nat), Lib.parseUint10 a l = .ok u → Lib.parseUint10 a (l ++ r) = Lib.parseUint10 u r := by
  induction l with
  | nil => intro a u h; simp only [Lib.parseUint10] at h; cases h; rfl
  | cons c l ih =>
    intro a u h
    simp only [Lib.parseUint10, List.cons_append] at h ⊢
    split at h
    · rename_i hc
      split at h
      · cases h
      · rename_i h1
        split at h
        · cases h
        · rename_i h2
          rw [if_pos hc, if_neg h1, if_neg h2]
          exact ih _ _ h
    · cases h
theorem dig_toNat (d : Nat) (h : d < 10) : (UInt8.ofNat (48 + d)).toNat = 48 + d := by
  rw [UInt8.toNat_ofNat']; omega
theorem parseUint_dec (u : Nat) (h : u < 9223372036854775808) : Lib.parseUint10 0 (Lib.decDigits u) = .ok u := by
  induction u using Nat.strongRecOn with
  | ind u ih =>
    rw [Lib.decDigits]
    split
    · rename_i h1
      simp only [Lib.parseUint10, dig_toNat u h1]
      rw [if_pos (by omega), if_neg (by omega), if_neg (by omega)]
      congr 1; omega
    · rename_i h1
      rw [parseUint_append _ _ _ _ (ih (u / 10) (by omega) (by omega))]
      simp only [Lib.parseUint10, dig_toNat (u % 10) (by omega)]
      rw [if_pos (by omega), if_neg (by omega), if_neg (by omega)]
      congr 1; omega
theorem dec_digits (u : Nat) : ∀ c ∈ Lib.decDigits u, 48 ≤ c.toNat ∧ c.toNat ≤ 57 := by
  induction u using Nat.strongRecOn with
  | ind u ih =>
    rw [Lib.decDigits]
    split
    · rename_i h1
      intro c hc
      rw [List.mem_singleton.1 hc, dig_toNat u h1]; omega
    · rename_i h1
      intro c hc
      rcases List.mem_append.1 hc with hc | hc
      · exact ih (u / 10) (by omega) c hc
      · rw [List.mem_singleton.1 hc, dig_toNat (u % 10) (by omega)]; omega
theorem dec_ne (u : Nat) : Lib.decDigits u ≠ [] := by
  rw [Lib.decDigits]; split <;> simp
theorem itoa_num (n : Int) : ∀ c ∈ Lib.itoa n, isNum c = true := by
  intro c hc
  unfold Lib.itoa at hc
  unfold isNum
  split at hc
  · rcases List.mem_cons.1 hc with rfl | hc
    · rfl
    · have := dec_digits _ c hc; simp [this]
  · have := dec_digits _ c hc; simp [this]
theorem itoa_ne (n : Int) : Lib.itoa n ≠ [] := by
  unfold Lib.itoa; split
  · simp
  · exact dec_ne _
theorem atoi_itoa (n : Int) (h1 : -9007199254740992 ≤ n) (h2 : n ≤ 9007199254740992) : Lib.atoiAll (Lib.itoa n) = .ok n := by
  unfold Lib.itoa
  split
  · rename_i h
    have e : Lib.parseMag (Lib.decDigits n.natAbs) = .ok n.natAbs := by
      rw [Lib.parseMag, if_neg (dec_ne _), parseUint_dec _ (by omega)]
    have e45 : (45 : UInt8).toNat = 45 := rfl
    simp only [Lib.atoiAll, e45, or_true, if_true, e]
    rw [if_neg (by omega), if_neg (by omega)]
    congr 1; omega
  · rename_i h
    have e : Lib.parseMag (Lib.decDigits n.toNat) = .ok n.toNat := by
      rw [Lib.parseMag, if_neg (dec_ne _), parseUint_dec _ (by omega)]
    cases hd : Lib.decDigits n.toNat with
    | nil => exact absurd hd (dec_ne _)
    | cons c r =>
      have hc := dec_digits n.toNat c (by rw [hd]; simp)
      have hn : ¬ (c.toNat = 43 ∨ c.toNat = 45) := by omega
      have hn2 : ¬ c.toNat = 45 := by omega
      rw [hd] at e
      simp only [Lib.atoiAll, if_neg hn, e]
      rw [if_neg (by omega), if_neg (by omega), if_neg hn2]
      congr 1; omega
theorem take_all {p : UInt8 → Bool} {l r : List UInt8} (h : ∀ c ∈ l, p c = true) (hr : p (hd0 r) = false ∨ r = []) : (l ++ r).takeWhile p = l ∧ (l ++ r).dropWhile p = r := by
  induction l with
  | nil =>
    cases r with
    | nil => exact ⟨rfl, rfl⟩
    | cons c r =>
      rcases hr with hr | hr
      · have : p c = false := hr
        simp [this]
      · cases hr
  | cons c l ih =>
    obtain ⟨e1, e2⟩ := ih fun x hx => h x (by simp [hx])
    rw [List.cons_append, List.takeWhile_cons, List.dropWhile_cons, if_pos (h c (by simp)), if_pos (h c (by simp)), e1, e2]
    exact ⟨rfl, rfl⟩
theorem numS_itoa (n : Int) (h1 : -9007199254740992 ≤ n) (h2 : n ≤ 9007199254740992) (r : List UInt8) (hr : isNum (hd0 r) = false) : numS (Lib.itoa n ++ r) = some (n, r) := by
  unfold numS
  obtain ⟨e1, e2⟩ := take_all (itoa_num n) (.inl hr)
  rw [e1, e2, atoi_itoa n h1 h2]
  simp

/- Texts. -/
theorem digsS_app (x : List UInt8) (k : Nat) : ∀ (n : Nat) (l : List UInt8) (p : Nat × List UInt8), digsS k n l = some p → digsS k n (l ++ x) = some (p.1, p.2 ++ x) := by
  induction k with
  | zero => intro n l p h; simp only [digsS, Option.some.injEq] at h ⊢; subst h; rfl
  | succ k ih =>
    intro n l p h
    simp only [digsS, Option.bind_eq_some_iff] at h ⊢
    obtain ⟨q, h1, h2⟩ := h
    refine ⟨(q.1, q.2 ++ x), ?_, ih _ _ _ h2⟩
    cases l with
    | nil => cases h1
    | cons c l =>
      simp only [digS, Option.map_eq_some_iff, List.cons_append] at h1 ⊢
      obtain ⟨d, h3, rfl⟩ := h1
      exact ⟨d, h3, rfl⟩
theorem codedS_app (x : List UInt8) {l : List UInt8} {p : UInt8 × List UInt8} (h : codedS l = some p) : codedS (l ++ x) = some (p.1, p.2 ++ x) := by
  simp only [codedS, Option.bind_eq_some_iff] at h ⊢
  obtain ⟨q, h1, h2⟩ := h
  refine ⟨_, digsS_app x _ _ _ _ h1, ?_⟩
  split at h2
  · rename_i hc; cases h2; simp only [if_pos hc]
  · cases h2
theorem byteS_esc (c : UInt8) (hc : c.toNat < 128) : (byteS c = [c] ∧ c ≠ 34 ∧ c ≠ 92 ∧ ¬ (c.toNat < 32 ∨ 127 ≤ c.toNat)) ∨ ∃ d r, byteS c = 92 :: d :: r ∧ ∀ x, escS (d :: r ++ x) = some (c, x) := by
  have H : ∀ k : Fin 128, (byteS (UInt8.ofNat k.val) = [UInt8.ofNat k.val] ∧ (UInt8.ofNat k.val) ≠ 34 ∧ UInt8.ofNat k.val ≠ 92 ∧ ¬ ((UInt8.ofNat k.val).toNat < 32 ∨ 127 ≤ (UInt8.ofNat k.val).toNat)) ∨
      (byteS (UInt8.ofNat k.val)).head? = some 92 ∧ (byteS (UInt8.ofNat k.val)).length = 2 ∧ (byteS (UInt8.ofNat k.val))[1]? ≠ some 117 ∧ (byteS (UInt8.ofNat k.val))[1]? ≠ some 47 ∧ ((byteS (UInt8.ofNat k.val))[1]?.bind escB) = some (UInt8.ofNat k.val) ∨
      (byteS (UInt8.ofNat k.val)).head? = some 92 ∧ (byteS (UInt8.ofNat k.val))[1]? = some 117 ∧ (byteS (UInt8.ofNat k.val)).length = 6 ∧ codedS ((byteS (UInt8.ofNat k.val)).drop 2) = some (UInt8.ofNat k.val, []) := by decide +kernel
  have e : UInt8.ofNat c.toNat = c := UInt8.ofNat_toNat
  have h := H ⟨c.toNat, hc⟩
  simp only [e] at h
  rcases h with h | ⟨h0, hl, h1, h2, h3⟩ | ⟨h0, h1, hl, h3⟩
  · exact .inl h
  · right
    match hb : byteS c, h0, hl, h1, h2, h3 with
    | [a, d], h0, _, h1, h2, h3 =>
      simp only [List.head?_cons, Option.some.injEq] at h0
      subst h0
      simp only [List.getElem?_cons_succ, List.getElem?_cons_zero, ne_eq, Option.some.injEq, Option.bind_some] at h1 h2 h3
      refine ⟨d, [], rfl, fun x => ?_⟩
      simp only [List.cons_append, List.nil_append, escS, if_neg h1, if_neg h2, h3, Option.map_some]
  · right
    match hb : byteS c, h0, hl, h1, h3 with
    | [a, d, q1, q2, q3, q4], h0, _, h1, h3 =>
      simp only [List.head?_cons, Option.some.injEq] at h0
      subst h0
      simp only [List.getElem?_cons_succ, List.getElem?_cons_zero, Option.some.injEq] at h1
      subst h1
      refine ⟨117, [q1, q2, q3, q4], rfl, fun x => ?_⟩
      simp only [List.drop_succ_cons, List.drop_zero] at h3
      simp only [List.cons_append, List.nil_append, escS, if_true]
      exact codedS_app x h3
theorem bodyS_flat (s : List UInt8) : (∀ c ∈ s, c.toNat < 128) → ∀ (acc r : List UInt8) (n : Nat), s.length < n → bodyS n acc (s.flatMap byteS ++ 34 :: r) = some (acc ++ s, r) := by
  induction s with
  | nil =>
    intro _ acc r n hn
    cases n with
    | zero => simp at hn
    | succ n => simp [bodyS]
  | cons c s ih =>
    intro h acc r n hn
    cases n with
    | zero => simp at hn
    | succ n =>
      have hih := ih (fun x hx => h x (by simp [hx])) (acc ++ [c]) r n (by simp at hn; omega)
      rw [List.flatMap_cons, List.append_assoc]
      rcases byteS_esc c (h c (by simp)) with ⟨e, h1, h2, h3⟩ | ⟨d, q, e, hx⟩
      · rw [e, List.cons_append, List.nil_append, bodyS, if_neg h1, if_neg h2, if_neg h3, hih]
        simp
      · rw [e, List.cons_append, bodyS, if_neg (by decide), if_pos rfl, hx, Option.bind_some]
        simp only [hih, List.append_assoc, List.cons_append, List.nil_append]
theorem markS_cons (c : UInt8) (h : isSp c = false) (l : List UInt8) : markS c (c :: l) = some l := by
  unfold markS
  rw [List.dropWhile_cons, if_neg (by simp [h])]; simp
theorem markS_other (c d : UInt8) (h : isSp d = false) (hcd : d ≠ c) (l : List UInt8) : markS c (d :: l) = none := by
  unfold markS
  rw [List.dropWhile_cons, if_neg (by simp [h])]; simp [hcd]
theorem flat_lenU (s : List UInt8) : s.length ≤ (s.flatMap byteS).length := by
  induction s with
  | nil => simp
  | cons c s ih =>
    have : 1 ≤ (byteS c).length := by unfold byteS; repeat' split
                                      all_goals simp
    simp only [List.flatMap_cons, List.length_append, List.length_cons]; omega
theorem quotS_quote (s : List UInt8) (h : plainB s = true) (r : List UInt8) : quotS (quoteS s ++ r) = some (s, r) := by
  have h2 : ∀ c ∈ s, c.toNat < 128 := by
    unfold plainB at h
    simp only [Bool.and_eq_true, List.all_eq_true, decide_eq_true_eq] at h
    exact h.2
  unfold quotS quoteS
  rw [List.cons_append, List.cons_append, markS_cons 34 (by decide), Option.bind_some, List.append_assoc, List.cons_append, List.nil_append,
    bodyS_flat s h2 [] r _ (by have := flat_lenU s; simp only [List.length_append, List.length_cons]; omega), List.nil_append]

/- Keys. -/
theorem memV_new {ks : List (List UInt8)} {l : List V} {k : List UInt8} (h : ∀ a ∈ ks, Op.bytesLess a k = true) : memV ⟨5, 0, [], ks, l⟩ k = none := by
  have e : idxL k ks = none := idxL_none fun a ha => less_ne (h a ha)
  simp only [memV, findV]
  split
  · simp [e]
  · rfl
theorem withV_new {ks : List (List UInt8)} {l : List V} {k : List UInt8} {x : V} (hl : ks.length = l.length) (h : ∀ a ∈ ks, Op.bytesLess a k = true) : withV ⟨5, 0, [], ks, l⟩ k x = ⟨5, 0, [], ks ++ [k], l ++ [x]⟩ := by
  have e : idxL k ks = none := idxL_none fun a ha => less_ne (h a ha)
  have e2 : insV k ks = ks.length := by
    unfold insV
    have : ks.takeWhile (fun a => Op.bytesLess a k) = ks := by
      induction ks generalizing l with
      | nil => rfl
      | cons a ks ih =>
        rw [List.takeWhile_cons, if_pos (h a (by simp))]
        congr 1
        exact ih (l := l.tail) (by simp at hl; simp; omega) (fun y hy => h y (by simp [hy])) (idxL_none fun y hy => less_ne (h y (by simp [hy])))
    rw [this]
  unfold withV
  rw [if_pos (by simp [pairedV, hl])]
  simp only [e]
  rw [e2, List.take_length, List.drop_length, hl, List.take_length, List.drop_length]

/- What a good value's text begins with. -/
theorem print_head (D : Nat) (t : V) (h : GoodT D t) : ∃ c r, printS D t = c :: r ∧ isSp c = false ∧ c ≠ 93 := by
  cases D with
  | zero => exact h.elim
  | succ D =>
    simp only [printS]
    split
    · exact ⟨_, _, rfl, by decide, by decide⟩
    split
    · unfold boolS; split
      · exact ⟨_, _, rfl, by decide, by decide⟩
      · exact ⟨_, _, rfl, by decide, by decide⟩
    split
    · cases hn : Lib.itoa t.n with
      | nil => exact absurd hn (itoa_ne _)
      | cons c r =>
        have := itoa_num t.n c (by rw [hn]; simp)
        refine ⟨c, r, rfl, ?_, ?_⟩
        · cases hs : isSp c with
          | false => rfl
          | true => rw [isNum_gap hs] at this; cases this
        · rintro rfl; revert this; decide
    split
    · exact ⟨_, _, rfl, by decide, by decide⟩
    split
    · exact ⟨_, _, rfl, by decide, by decide⟩
    · exact ⟨_, _, rfl, by decide, by decide⟩
theorem commaS_cons (x : List UInt8) (xs : List (List UInt8)) : commaS (x :: xs) = x ++ xs.flatMap (fun y => 44 :: y) := by
  induction xs generalizing x with
  | nil => simp [commaS]
  | cons y ys ih => rw [commaS, ih, List.flatMap_cons]; simp

/- What is read of a text of a good value. -/
def Back (D : Nat) (g : Rd) : Prop := ∀ t, GoodT D t → ∀ r, isNum (hd0 r) = false → g (printS D t ++ r) = some (t, r)
theorem itemsS_back {D : Nat} {g : Rd} (hg : Back D g) (xs : List V) : (∀ x ∈ xs, GoodT D x) → ∀ (acc : List V) (r : List UInt8) (k : Nat), xs.length < k →
    itemsS g k acc (xs.flatMap (fun y => 44 :: printS D y) ++ 93 :: r) = some (⟨4, 0, [], [], acc ++ xs⟩, r) := by
  induction xs with
  | nil =>
    intro _ acc r k hk
    cases k with
    | zero => simp at hk
    | succ k =>
      rw [List.flatMap_nil, List.nil_append, itemsS, markS_other _ _ (by decide) (by decide)]
      simp only [markS_drop, markS_cons 93 (by decide), Option.map_some, List.append_nil]
  | cons x xs ih =>
    intro h acc r k hk
    cases k with
    | zero => simp at hk
    | succ k =>
      rw [List.flatMap_cons, List.cons_append, List.cons_append, itemsS, markS_cons _ (by decide)]
      simp only [List.append_assoc]
      rw [hg x (h x (by simp)) _ (by cases xs <;> rfl), Option.bind_some]
      simp only
      rw [ih (fun y hy => h y (by simp [hy])) _ _ _ (by simp at hk; omega)]
      simp
theorem listS_back {D : Nat} {g : Rd} (hg : Back D g) (hd : Dr g) (xs : List V) (h : ∀ x ∈ xs, GoodT D x) (r : List UInt8) : listS g (91 :: commaS (xs.map (printS D)) ++ [93] ++ r) = some (⟨4, 0, [], [], xs⟩, r) := by
  unfold listS
  rw [List.cons_append, List.cons_append, markS_cons _ (by decide), Option.bind_some]
  cases xs with
  | nil =>
    simp only [List.map_nil, commaS, List.nil_append, List.cons_append, markS_cons 93 (by decide)]
  | cons x xs =>
    rw [List.map_cons, commaS_cons]
    obtain ⟨c, q, e, h1, h2⟩ := print_head D x (h x (by simp))
    have hn : markS 93 (printS D x ++ (xs.map (printS D)).flatMap (fun y => 44 :: y) ++ [93] ++ r) = none := by
      rw [e]; exact markS_other _ _ h1 h2 _
    simp only [hn, hd _]
    have e2 : (xs.map (printS D)).flatMap (fun y => 44 :: y) = xs.flatMap (fun y => 44 :: printS D y) := by rw [List.flatMap_map]
    rw [e2]
    simp only [List.append_assoc, List.cons_append, List.nil_append]
    rw [hg x (h x (by simp)) _ (by cases xs <;> rfl), Option.bind_some]
    simp only
    rw [itemsS_back hg xs (fun y hy => h y (by simp [hy])) [x] r _ (by
      have : ∀ (m : List V), m.length ≤ (m.flatMap (fun y => 44 :: printS D y)).length := by
        intro m
        induction m with
        | nil => simp
        | cons y m ihm => simp only [List.flatMap_cons, List.length_append, List.length_cons]; omega
      have := this xs
      simp only [List.length_append, List.length_cons]; omega)]
    rfl
def pairT (D : Nat) (p : List UInt8 × V) : List UInt8 := quoteS p.1 ++ 58 :: printS D p.2
theorem memS_back {D : Nat} {g : Rd} (hg : Back D g) (ks : List (List UInt8)) (l : List V) (hl : ks.length = l.length) (k : List UInt8) (x : V) (hk : plainB k = true) (hx : GoodT D x) (ha : ∀ a ∈ ks, Op.bytesLess a k = true) (r : List UInt8) (hr : isNum (hd0 r) = false) :
    memS g ⟨5, 0, [], ks, l⟩ (pairT D (k, x) ++ r) = some (⟨5, 0, [], ks ++ [k], l ++ [x]⟩, r) := by
  unfold memS pairT
  simp only [List.append_assoc, List.cons_append]
  rw [quotS_quote k hk, Option.bind_some]
  simp only
  rw [markS_cons _ (by decide), Option.bind_some, hg x hx r hr, Option.bind_some]
  simp only [memV_new ha, Option.isSome_none, Bool.false_eq_true, if_false, withV_new hl ha]
theorem membsS_back {D : Nat} {g : Rd} (hg : Back D g) (ps : List (List UInt8 × V)) : (∀ p ∈ ps, plainB p.1 = true ∧ GoodT D p.2) → ∀ (ks : List (List UInt8)) (l : List V), ks.length = l.length → Rises (ks ++ ps.map (·.1)) → ∀ (r : List UInt8) (n : Nat), ps.length < n →
    membsS g n ⟨5, 0, [], ks, l⟩ (ps.flatMap (fun p => 44 :: pairT D p) ++ 125 :: r) = some (⟨5, 0, [], ks ++ ps.map (·.1), l ++ ps.map (·.2)⟩, r) := by
  induction ps with
  | nil =>
    intro _ ks l _ _ r k hk
    cases k with
    | zero => simp at hk
    | succ k =>
      rw [List.flatMap_nil, List.nil_append, membsS, markS_other _ _ (by decide) (by decide)]
      simp only [markS_drop, markS_cons 125 (by decide), Option.map_some, List.map_nil, List.append_nil]
  | cons p ps ih =>
    intro h ks l hl hr r k hk
    cases k with
    | zero => simp at hk
    | succ k =>
      rw [List.flatMap_cons, List.cons_append, List.cons_append, membsS, markS_cons _ (by decide)]
      simp only [List.append_assoc]
      have ha : ∀ a ∈ ks, Op.bytesLess a p.1 = true := fun a ha => (List.pairwise_append.1 hr).2.2 a ha p.1 (by simp)
      rw [memS_back hg ks l hl p.1 p.2 (h p (by simp)).1 (h p (by simp)).2 ha _ (by cases ps <;> rfl), Option.bind_some]
      simp only
      rw [ih (fun y hy => h y (by simp [hy])) _ _ (by simp [hl]) (by simpa using hr) _ _ (by simp at hk; omega)]
      simp
theorem objS_back {D : Nat} {g : Rd} (hg : Back D g) (ps : List (List UInt8 × V)) (h : ∀ p ∈ ps, plainB p.1 = true ∧ GoodT D p.2) (hr : Rises (ps.map (·.1))) (r : List UInt8) : objS g (123 :: commaS (ps.map (pairT D)) ++ [125] ++ r) = some (⟨5, 0, [], ps.map (·.1), ps.map (·.2)⟩, r) := by
  unfold objS
  rw [List.cons_append, List.cons_append, markS_cons _ (by decide), Option.bind_some]
  cases ps with
  | nil =>
    simp only [List.map_nil, commaS, List.nil_append, List.cons_append, markS_cons 125 (by decide)]
  | cons x xs =>
    rw [List.map_cons, commaS_cons]
    have hn : markS 125 (pairT D x ++ (xs.map (pairT D)).flatMap (fun y => 44 :: y) ++ [125] ++ r) = none := by
      unfold pairT quoteS; exact markS_other _ _ (by decide) (by decide) _
    simp only [hn, memS_drop g _ _]
    have e2 : (xs.map (pairT D)).flatMap (fun y => 44 :: y) = xs.flatMap (fun y => 44 :: pairT D y) := by rw [List.flatMap_map]
    rw [e2]
    simp only [List.append_assoc, List.cons_append, List.nil_append]
    rw [memS_back hg [] [] rfl x.1 x.2 (h x (by simp)).1 (h x (by simp)).2 (fun a ha => by cases ha) _ (by cases xs <;> rfl), Option.bind_some]
    simp only [List.nil_append]
    rw [membsS_back hg xs (fun y hy => h y (by simp [hy])) [x.1] [x.2] rfl (by simpa using hr) r _ (by
      have : ∀ (m : List (List UInt8 × V)), m.length ≤ (m.flatMap (fun y => 44 :: pairT D y)).length := by
        intro m
        induction m with
        | nil => simp
        | cons y m ihm => simp only [List.flatMap_cons, List.length_append, List.length_cons]; omega
      have := this xs
      simp only [List.length_append, List.length_cons]; omega)]
    rfl
theorem pairS_zip (D : Nat) : ∀ (ks : List (List UInt8)) (l : List V), pairS (printS D) ks l = (ks.zip l).map (pairT D)
  | [], l => by simp [pairS]
  | k :: ks, [] => by simp [pairS]
  | k :: ks, x :: l => by
    have := pairS_zip D ks l
    unfold pairS at this ⊢
    rw [List.zipWith_cons_cons, this]; rfl
theorem wordS_self (wd r : List UInt8) : wordS wd (wd ++ r) = some r := by
  unfold wordS
  rw [if_pos (List.isPrefixOf_iff_prefix.2 ⟨r, rfl⟩)]; simp
theorem V_ext {t : V} {k n : Int} {s : List UInt8} {ks : List (List UInt8)} {l : List V} (h1 : t.kind = k) (h2 : t.n = n) (h3 : t.s = s) (h4 : t.keys = ks) (h5 : t.l = l) : t = ⟨k, n, s, ks, l⟩ := by
  cases t; simp only at h1 h2 h3 h4 h5; subst h1 h2 h3 h4 h5; rfl
theorem back_all (D : Nat) : ∀ F, D ≤ F → Back D (valS F) := by
  induction D with
  | zero => intro F _ t h; exact h.elim
  | succ D ih =>
    intro F hF t h r hr
    cases F with
    | zero => omega
    | succ F =>
      have hB := ih F (by omega)
      obtain ⟨c, q, e, hs1, hs2⟩ := print_head (D + 1) t h
      have hdr : (printS (D + 1) t ++ r).dropWhile isSp = printS (D + 1) t ++ r := by
        rw [e, List.cons_append, List.dropWhile_cons, if_neg (by simp [hs1])]
      simp only [valS]
      rw [hdr]
      clear e hs1 hs2 hdr
      obtain ⟨hsh, hch⟩ := h
      have nil2 : ∀ {t : V}, listlessB t = true → t.keys = [] ∧ t.l = [] := by
        intro t h
        unfold listlessB at h
        simp only [Bool.and_eq_true, decide_eq_true_eq] at h
        exact ⟨List.length_eq_zero_iff.1 h.1, List.length_eq_zero_iff.1 h.2⟩
      simp only [shapedB] at hsh
      simp only [printS]
      split at hsh
      · rename_i hk
        simp only [Bool.and_eq_true, decide_eq_true_eq] at hsh
        obtain ⟨⟨a1, a2⟩, a3⟩ := hsh
        rw [if_pos hk]
        have e0 : hd0 ([110, 117, 108, 108] ++ r) = 110 := rfl
        unfold oneS
        rw [e0, if_pos rfl, wordS_self, V_ext hk a1 a2 (nil2 a3).1 (nil2 a3).2]; rfl
      rename_i hk0
      rw [if_neg hk0]
      split at hsh
      · rename_i hk
        simp only [Bool.and_eq_true, Bool.or_eq_true, decide_eq_true_eq] at hsh
        obtain ⟨⟨a1, a2⟩, a3⟩ := hsh
        rw [if_pos hk]
        have e0 : hd0 ([102, 97, 108, 115, 101] ++ r) = 102 := rfl
        have e1 : hd0 ([116, 114, 117, 101] ++ r) = 116 := rfl
        have b0 : boolS ((0 : Int) == 1) = [102, 97, 108, 115, 101] := rfl
        have b1 : boolS ((1 : Int) == 1) = [116, 114, 117, 101] := rfl
        unfold oneS
        rcases a1 with a1 | a1
        · rw [a1, b0, e0, if_neg (by decide), if_pos rfl, wordS_self, V_ext hk a1 a2 (nil2 a3).1 (nil2 a3).2]; rfl
        · rw [a1, b1, e1, if_neg (by decide), if_neg (by decide), if_pos rfl, wordS_self, V_ext hk a1 a2 (nil2 a3).1 (nil2 a3).2]; rfl
      rename_i hk1
      rw [if_neg hk1]
      split at hsh
      · rename_i hk
        simp only [Bool.and_eq_true, decide_eq_true_eq] at hsh
        obtain ⟨⟨⟨a0, a1⟩, a2⟩, a3⟩ := hsh
        rw [if_pos hk]
        have hh : isNum (hd0 (Lib.itoa t.n ++ r)) = true := by
          cases hn : Lib.itoa t.n with
          | nil => exact absurd hn (itoa_ne _)
          | cons c q => exact itoa_num t.n c (by rw [hn]; simp)
        have hne : ∀ c, isNum c = false → hd0 (Lib.itoa t.n ++ r) ≠ c := by
          intro c hc e; rw [e, hc] at hh; cases hh
        unfold oneS
        rw [if_neg (hne _ (by decide)), if_neg (hne _ (by decide)), if_neg (hne _ (by decide)), if_neg (hne _ (by decide)), if_neg (hne _ (by decide)), if_neg (hne _ (by decide)), numS_itoa _ a0 a1 r hr]
        simp only [Option.map_some, leafV]
        rw [← V_ext hk rfl a2 (nil2 a3).1 (nil2 a3).2]
      rename_i hk2
      rw [if_neg hk2]
      split at hsh
      · rename_i hk
        simp only [Bool.and_eq_true, decide_eq_true_eq] at hsh
        obtain ⟨⟨a1, a2⟩, a3⟩ := hsh
        rw [if_pos hk]
        have e34 : hd0 (quoteS t.s ++ r) = 34 := rfl
        unfold oneS
        rw [e34, if_neg (by decide), if_neg (by decide), if_neg (by decide), if_pos rfl, quotS_quote _ a2]
        simp only [Option.map_some, leafV]
        rw [← V_ext hk a1 rfl (nil2 a3).1 (nil2 a3).2]
      rename_i hk3
      rw [if_neg hk3]
      split at hsh
      · rename_i hk
        simp only [Bool.and_eq_true, decide_eq_true_eq] at hsh
        obtain ⟨⟨a1, a2⟩, a3⟩ := hsh
        rw [if_pos hk]
        have e91 : hd0 (91 :: commaS (t.l.map (printS D)) ++ [93] ++ r) = 91 := rfl
        unfold oneS
        rw [e91, if_neg (by decide), if_neg (by decide), if_neg (by decide), if_neg (by decide), if_pos rfl, listS_back hB (valS_drop F) t.l hch r]
        rw [← V_ext hk a1 a2 (List.length_eq_zero_iff.1 a3) rfl]
      rename_i hk4
      rw [if_neg hk4]
      split at hsh
      · rename_i hk
        simp only [Bool.and_eq_true, decide_eq_true_eq] at hsh
        obtain ⟨⟨⟨a1, a2⟩, a3⟩, a4⟩ := hsh
        obtain ⟨-, g2, g3⟩ := rise_pair _ _ a4
        have e123 : hd0 (123 :: commaS (pairS (printS D) t.keys t.l) ++ [125] ++ r) = 123 := rfl
        unfold oneS
        rw [e123, if_neg (by decide), if_neg (by decide), if_neg (by decide), if_neg (by decide), if_neg (by decide), if_pos rfl, pairS_zip]
        have z1 : (t.keys.zip t.l).map (·.1) = t.keys := by
          have := List.map_fst_zip (l₁ := t.keys) (l₂ := t.l) (by omega); simpa using this
        have z2 : (t.keys.zip t.l).map (·.2) = t.l := by
          have := List.map_snd_zip (l₁ := t.keys) (l₂ := t.l) (by omega); simpa using this
        rw [objS_back hB _ (fun p hp => ⟨g3 _ (List.of_mem_zip hp).1, hch _ (List.of_mem_zip hp).2⟩) (by rw [z1]; exact g2) r, z1, z2]
        rw [← V_ext hk a1 a2 rfl rfl]
      · cases hsh
theorem parse_print {t : V} (h : goodV t = true) (d : Nat) (hd : Dep d t) (hl : (printS d t).length ≤ 2000) : parseS (printS d t) = (t, 0) := by
  have hT := goodV_tree h
  rw [printS_fuel d 12 t hd hT.dep] at hl ⊢
  have hb : valS ((printS 12 t).length + 1) (printS 12 t) = some (t, []) := by
    have h1 := back_all 12 ((printS 12 t).length + 1 + 12) (by omega) t hT [] (by decide)
    rw [List.append_nil] at h1
    rw [← h1]
    exact valS_fuel _ _ _ (by omega) (by omega)
  unfold parseS parseV
  rw [if_neg (by omega), hb]
  simp [h]
theorem parseS_good {l : List UInt8} {t : V} (h : parseS l = (t, 0)) : goodV t = true := by
  unfold parseS at h
  split at h
  · simp at h
  · split at h
    · rename_i t' ht
      cases h
      unfold parseV at ht
      simp only [Option.bind_eq_some_iff] at ht
      obtain ⟨p, -, h2⟩ := ht
      split at h2
      · rename_i hc; cases h2; exact hc.2
      · cases h2
    · simp at h
theorem parseS_cases (l : List UInt8) : (∃ t, parseS l = (t, 0)) ∨ ∃ e, (e = 1 ∨ e = 2) ∧ parseS l = (leafV 0 0 [], e) := by
  unfold parseS
  split
  · exact .inr ⟨2, .inr rfl, rfl⟩
  · split
    · exact .inl ⟨_, rfl⟩
    · exact .inr ⟨1, .inl rfl, rfl⟩
end Go.Proofs.YtkboplcffailoaaDoor

/- What a text tells by the reference: plainly, and that it is what Parse tells. -/
set_option linter.unusedSimpArgs false
set_option linter.unusedVariables false
namespace Go.Proofs.YtkboplcffailoaaDoor
open Go.RowKit

def isDig (c : UInt8) : Bool := decide (48 ≤ c.toNat) && decide (c.toNat ≤ 57)
def natD (ds : List UInt8) : Nat := ds.foldl (fun n c => 10 * n + (c.toNat - 48)) 0
def numU : List UInt8 → List UInt8
  | [] => []
  | c :: r => c :: r.takeWhile isDig
def numN (u : List UInt8) : Int := if hd0 u = 45 then -(natD u.tail : Int) else natD u
def numR (l : List UInt8) : Option (Int × List UInt8) :=
  if (-9007199254740992 ≤ numN (numU l) ∧ numN (numU l) ≤ 9007199254740992) ∧ Lib.itoa (numN (numU l)) = numU l then some (numN (numU l), l.drop (numU l).length) else none
def quotR (l : List UInt8) : Option (List UInt8 × List UInt8) := (quotS l).bind fun q => if q.1.length ≤ 60 then some q else none
def memR (g : Rd) (v : V) (l : List UInt8) : Option (V × List UInt8) :=
  (quotR l).bind fun q => (markS 58 q.2).bind fun l => (g l).bind fun p => if (memV v q.1).isSome then none else some (withV v q.1 p.1, p.2)
def membsR (g : Rd) : Nat → V → List UInt8 → Option (V × List UInt8)
  | 0, _, _ => none
  | k + 1, v, l =>
    match markS 44 l with
    | some r => (memR g v r).bind fun p => membsR g k p.1 p.2
    | none => (markS 125 (l.dropWhile isSp)).map fun r => (v, r)
def objR (g : Rd) (l : List UInt8) : Option (V × List UInt8) :=
  (markS 123 l).bind fun l =>
    match markS 125 l with
    | some r => some (⟨5, 0, [], [], []⟩, r)
    | none => (memR g ⟨5, 0, [], [], []⟩ (l.dropWhile isSp)).bind fun p => membsR g (p.2.length + 1) p.1 p.2
def oneQ (g : Rd) (l : List UInt8) : Option (V × List UInt8) :=
  if hd0 l = 110 then (wordS [110, 117, 108, 108] l).map fun r => (leafV 0 0 [], r)
  else if hd0 l = 102 then (wordS [102, 97, 108, 115, 101] l).map fun r => (leafV 1 0 [], r)
  else if hd0 l = 116 then (wordS [116, 114, 117, 101] l).map fun r => (leafV 1 1 [], r)
  else if hd0 l = 34 then (quotR l).map fun p => (leafV 3 0 p.1, p.2)
  else if hd0 l = 91 then listS g l
  else if hd0 l = 123 then objR g l
  else if isNum (hd0 l) then (numR l).map fun p => (leafV 2 p.1 [], p.2) else none
def valR : Nat → List UInt8 → Option (V × List UInt8)
  | 0, _ => none
  | D + 1, l => oneQ (valR D) (l.dropWhile isSp)
def parseR (l : List UInt8) : V × Int :=
  if 2000 < l.length then (leafV 0 0 [], 2) else match valR 12 l with | some p => if p.2.dropWhile isSp = [] ∧ goodV p.1 = true then (p.1, 0) else (leafV 0 0 [], 1) | none => (leafV 0 0 [], 1)

/- Numbers. -/
theorem natD_snoc (ds : List UInt8) (c : UInt8) : natD (ds ++ [c]) = 10 * natD ds + (c.toNat - 48) := by simp [natD]
theorem natD_dec (u : Nat) : natD (Lib.decDigits u) = u := by
  induction u using Nat.strongRecOn with
  | _ u ih =>
    rw [Lib.decDigits]
    split
    · rename_i h
      show 10 * 0 + ((UInt8.ofNat (48 + u)).toNat - 48) = u
      rw [dig_toNat u h]; omega
    · rename_i h
      rw [natD_snoc, ih (u / 10) (by omega), dig_toNat (u % 10) (by omega)]
      omega
theorem dec_isDig (u : Nat) : ∀ c ∈ Lib.decDigits u, isDig c = true := by
  intro c hc
  have := dec_digits u c hc
  simp [isDig, this.1, this.2]
theorem isDig_num {c : UInt8} (h : isDig c = true) : isNum c = true := by
  unfold isDig at h
  unfold isNum
  rw [h]; simp
theorem isDig_not {c : UInt8} (h : isNum c = false) : isDig c = false := by
  unfold isNum at h
  unfold isDig
  simp only [Bool.or_eq_false_iff] at h
  exact h.2
theorem take_dig {l r : List UInt8} (h : ∀ c ∈ l, isDig c = true) (hr : isNum (hd0 r) = false) : (l ++ r).takeWhile isDig = l := by
  refine (take_all h ?_).1
  cases r with
  | nil => exact .inr rfl
  | cons x r => exact .inl (isDig_not hr)
theorem itoa_shape (n : Int) : ∃ c ds, Lib.itoa n = c :: ds ∧ (∀ d ∈ ds, isDig d = true) ∧ numN (Lib.itoa n) = n := by
  unfold Lib.itoa
  by_cases h : n < 0
  · rw [if_pos h]
    refine ⟨45, _, rfl, dec_isDig _, ?_⟩
    unfold numN
    rw [if_pos (by rfl)]
    simp only [List.tail_cons, natD_dec]
    omega
  · rw [if_neg h]
    have hne := dec_ne n.toNat
    cases hq : Lib.decDigits n.toNat with
    | nil => exact absurd hq hne
    | cons c ds =>
      have hall := dec_isDig n.toNat
      rw [hq] at hall
      refine ⟨c, ds, rfl, fun d hd => hall d (List.mem_cons_of_mem _ hd), ?_⟩
      have h45 : hd0 (c :: ds) ≠ 45 := by
        intro e
        have e2 : c = 45 := e
        have := hall c (by simp)
        rw [e2] at this
        revert this; decide
      unfold numN
      rw [if_neg h45, ← hq, natD_dec]
      omega
theorem numU_itoa (n : Int) (r : List UInt8) (hr : isNum (hd0 r) = false) : numU (Lib.itoa n ++ r) = Lib.itoa n := by
  obtain ⟨c, ds, e, hd, -⟩ := itoa_shape n
  rw [e]
  show c :: (ds ++ r).takeWhile isDig = c :: ds
  rw [take_dig hd hr]
theorem numR_of {l : List UInt8} {n : Int} {r : List UInt8} (h : numS l = some (n, r)) (h1 : -9007199254740992 ≤ n) (h2 : n ≤ 9007199254740992) : numR l = some (n, r) ∧ isNum (hd0 l) = true := by
  unfold numS at h
  split at h
  · rename_i v hv
    split at h
    · rename_i hi
      simp only [Option.some.injEq, Prod.mk.injEq] at h
      obtain ⟨rfl, rfl⟩ := h
      have hl : l = Lib.itoa v ++ l.dropWhile isNum := by rw [hi]; exact (List.takeWhile_append_dropWhile).symm
      have hr : isNum (hd0 (l.dropWhile isNum)) = false := by
        cases hq : l.dropWhile isNum with
        | nil => decide
        | cons x r =>
          have := List.head?_dropWhile_not (p := isNum) l
          rw [hq] at this
          simpa [hd0] using this
      have hu : numU l = Lib.itoa v := by
        conv => lhs; rw [hl]
        exact numU_itoa v _ hr
      obtain ⟨c, ds, e, hd, hn⟩ := itoa_shape v
      refine ⟨?_, ?_⟩
      · unfold numR
        rw [hu, hn, if_pos ⟨⟨h1, h2⟩, rfl⟩]
        congr 2
        conv => lhs; rw [hl]
        simp
      · rw [hl, e]
        show isNum c = true
        exact itoa_num v c (by rw [e]; simp)
    · cases h
  · cases h
theorem numS_of {l : List UInt8} {n : Int} {r : List UInt8} (h : numR l = some (n, r)) (hr : isNum (hd0 r) = false) : numS l = some (n, r) := by
  unfold numR at h
  split at h
  · rename_i hc
    simp only [Option.some.injEq, Prod.mk.injEq] at h
    obtain ⟨rfl, rfl⟩ := h
    have hpre : l = numU l ++ l.drop (numU l).length := by
      cases l with
      | nil => rfl
      | cons c r =>
        simp only [numU, List.length_cons, List.drop_succ_cons, List.cons_append, List.cons.injEq, true_and]
        have h9 := List.takeWhile_prefix (l := r) isDig
        obtain ⟨t, ht⟩ := h9
        conv => lhs; rw [← ht]
        congr 1
        conv => rhs; arg 2; rw [← ht]
        simp
    have h9 := numS_itoa (numN (numU l)) hc.1.1 hc.1.2 _ hr
    rw [hc.2, ← hpre] at h9
    exact h9
  · cases h
/- What stands at the head of what is gone on with. -/
theorem head_mark {c : UInt8} {l r : List UInt8} (h : markS c l = some r) (hc : isNum c = false) : isNum (hd0 l) = false := by
  unfold markS at h
  cases l with
  | nil => simp at h
  | cons x t =>
    by_cases hx : isSp x = true
    · exact isNum_gap hx
    · rw [List.dropWhile_cons, if_neg hx] at h
      simp only at h
      split at h
      · rename_i e; show isNum x = false; rw [e]; exact hc
      · cases h
theorem markS_dropped (c : UInt8) (l : List UInt8) : markS c (l.dropWhile isSp) = markS c l := markS_drop c l
theorem items_head {g : Rd} {k : Nat} {acc : List V} {l : List UInt8} {p : V × List UInt8} (h : itemsS g k acc l = some p) : isNum (hd0 l) = false := by
  cases k with
  | zero => cases h
  | succ k =>
    rw [itemsS] at h
    split at h
    · rename_i r hr; exact head_mark hr (by decide)
    · rw [markS_drop] at h
      obtain ⟨r, hr, -⟩ := Option.map_eq_some_iff.1 h
      exact head_mark hr (by decide)
theorem membs_head {g : Rd} {k : Nat} {v : V} {l : List UInt8} {p : V × List UInt8} (h : membsR g k v l = some p) : isNum (hd0 l) = false := by
  cases k with
  | zero => cases h
  | succ k =>
    rw [membsR] at h
    split at h
    · rename_i r hr; exact head_mark hr (by decide)
    · rw [markS_drop] at h
      obtain ⟨r, hr, -⟩ := Option.map_eq_some_iff.1 h
      exact head_mark hr (by decide)
/- From the reference to the program. -/
def Up1 (g f : Rd) : Prop := ∀ l v r, g l = some (v, r) → isNum (hd0 r) = false → f l = some (v, r)
theorem items_up {g f : Rd} (h : Up1 g f) (k : Nat) : ∀ (acc : List V) (l : List UInt8) (p : V × List UInt8), itemsS g k acc l = some p → itemsS f k acc l = some p := by
  induction k with
  | zero => intro acc l p hp; cases hp
  | succ k ih =>
    intro acc l p hp
    rw [itemsS] at hp ⊢
    split at hp
    · rename_i r hr
      obtain ⟨⟨x, r2⟩, hg, hp⟩ := Option.bind_eq_some_iff.1 hp
      have h9 := ih _ _ _ hp
      rw [h _ _ _ hg (items_head hp)]
      exact h9
    · exact hp
theorem list_up {g f : Rd} (h : Up1 g f) {l : List UInt8} {p : V × List UInt8} (hp : listS g l = some p) : listS f l = some p := by
  unfold listS at hp ⊢
  obtain ⟨l1, h1, hp⟩ := Option.bind_eq_some_iff.1 hp
  rw [h1]
  simp only [Option.bind_some]
  split at hp
  · exact hp
  · obtain ⟨⟨x, r2⟩, hg, hp⟩ := Option.bind_eq_some_iff.1 hp
    rw [h _ _ _ hg (items_head hp)]
    exact items_up h _ _ _ _ hp
theorem quot_up {l : List UInt8} {q : List UInt8 × List UInt8} (h : quotR l = some q) : quotS l = some q ∧ q.1.length ≤ 60 := by
  unfold quotR at h
  obtain ⟨q', h1, h2⟩ := Option.bind_eq_some_iff.1 h
  split at h2
  · rename_i h3
    simp only [Option.some.injEq] at h2
    subst h2
    exact ⟨h1, h3⟩
  · cases h2
theorem mem_up {g f : Rd} (h : Up1 g f) {v : V} {l : List UInt8} {p : V × List UInt8} (hp : memR g v l = some p) (hr : isNum (hd0 p.2) = false) : memS f v l = some p := by
  unfold memR at hp
  unfold memS
  obtain ⟨q, h1, hp⟩ := Option.bind_eq_some_iff.1 hp
  obtain ⟨l1, h2, hp⟩ := Option.bind_eq_some_iff.1 hp
  obtain ⟨⟨x, r2⟩, h3, hp⟩ := Option.bind_eq_some_iff.1 hp
  rw [(quot_up h1).1]
  simp only [Option.bind_some, h2]
  split at hp
  · cases hp
  · rename_i h4
    simp only [Option.some.injEq] at hp
    rw [h _ _ _ h3 (by rw [← hp] at hr; exact hr)]
    simp only [Option.bind_some]
    rw [if_neg h4]
    rw [hp]
theorem membs_up {g f : Rd} (h : Up1 g f) (k : Nat) : ∀ (v : V) (l : List UInt8) (p : V × List UInt8), membsR g k v l = some p → membsS f k v l = some p := by
  induction k with
  | zero => intro acc l p hp; cases hp
  | succ k ih =>
    intro v l p hp
    rw [membsR] at hp
    rw [membsS]
    cases hm : markS 44 l with
    | some r =>
      rw [hm] at hp
      simp only at hp ⊢
      obtain ⟨q, hg, hp⟩ := Option.bind_eq_some_iff.1 hp
      rw [mem_up h hg (membs_head hp)]
      exact ih _ _ _ hp
    | none =>
      rw [hm] at hp
      exact hp
theorem obj_up {g f : Rd} (h : Up1 g f) {l : List UInt8} {p : V × List UInt8} (hp : objR g l = some p) : objS f l = some p := by
  unfold objR at hp
  unfold objS
  obtain ⟨l1, h1, hp⟩ := Option.bind_eq_some_iff.1 hp
  rw [h1]
  simp only [Option.bind_some]
  cases hm : markS 125 l1 with
  | some r => rw [hm] at hp; exact hp
  | none =>
    rw [hm] at hp
    simp only at hp ⊢
    obtain ⟨q, hg, hp⟩ := Option.bind_eq_some_iff.1 hp
    rw [mem_up h hg (membs_head hp)]
    exact membs_up h _ _ _ _ hp
theorem val_up (D : Nat) : ∀ (F : Nat), D ≤ F → Up1 (valR D) (valS F) := by
  induction D with
  | zero => intro F _ l v r h; cases h
  | succ D ih =>
    intro F hF l v r h hr
    obtain ⟨F', rfl⟩ : ∃ F', F = F' + 1 := ⟨F - 1, by omega⟩
    have hu := ih F' (by omega)
    rw [valR] at h
    rw [valS]
    unfold oneQ at h
    unfold oneS
    by_cases c1 : hd0 (l.dropWhile isSp) = 110
    · rw [if_pos c1] at h ⊢; exact h
    rw [if_neg c1] at h ⊢
    by_cases c2 : hd0 (l.dropWhile isSp) = 102
    · rw [if_pos c2] at h ⊢; exact h
    rw [if_neg c2] at h ⊢
    by_cases c3 : hd0 (l.dropWhile isSp) = 116
    · rw [if_pos c3] at h ⊢; exact h
    rw [if_neg c3] at h ⊢
    by_cases c4 : hd0 (l.dropWhile isSp) = 34
    · rw [if_pos c4] at h ⊢
      obtain ⟨q, h1, h2⟩ := Option.map_eq_some_iff.1 h
      rw [(quot_up h1).1, ← h2]; rfl
    rw [if_neg c4] at h ⊢
    by_cases c5 : hd0 (l.dropWhile isSp) = 91
    · rw [if_pos c5] at h ⊢; exact list_up hu h
    rw [if_neg c5] at h ⊢
    by_cases c6 : hd0 (l.dropWhile isSp) = 123
    · rw [if_pos c6] at h ⊢; exact obj_up hu h
    rw [if_neg c6] at h ⊢
    by_cases c7 : isNum (hd0 (l.dropWhile isSp)) = true
    · rw [if_pos c7] at h
      obtain ⟨q, h1, h2⟩ := Option.map_eq_some_iff.1 h
      simp only [Prod.mk.injEq] at h2
      obtain ⟨h3, h4⟩ := h2
      rw [numS_of (r := q.2) (n := q.1) h1 (by rw [h4]; exact hr), ← h3, ← h4]; rfl
    · rw [if_neg c7] at h; cases h
/- From the program to the reference, of what is good. -/
def Dn1 (D : Nat) (f g : Rd) : Prop := ∀ l v r, f l = some (v, r) → GoodT D v → g l = some (v, r)
theorem items_pre {f : Rd} (k : Nat) : ∀ (acc : List V) (l : List UInt8) (p : V × List UInt8), itemsS f k acc l = some p → ∀ x ∈ acc, x ∈ p.1.l := by
  induction k with
  | zero => intro acc l p hp; cases hp
  | succ k ih =>
    intro acc l p hp x hx
    rw [itemsS] at hp
    split at hp
    · obtain ⟨q, hg, hp⟩ := Option.bind_eq_some_iff.1 hp
      exact ih _ _ _ hp x (by simp [hx])
    · obtain ⟨r, hr, rfl⟩ := Option.map_eq_some_iff.1 hp
      exact hx
theorem items_dn {D : Nat} {f g : Rd} (h : Dn1 D f g) (k : Nat) : ∀ (acc : List V) (l : List UInt8) (p : V × List UInt8), itemsS f k acc l = some p → (∀ x ∈ p.1.l, GoodT D x) → itemsS g k acc l = some p := by
  induction k with
  | zero => intro acc l p hp; cases hp
  | succ k ih =>
    intro acc l p hp hG
    rw [itemsS] at hp ⊢
    split at hp
    · obtain ⟨⟨x, r2⟩, hg, hp⟩ := Option.bind_eq_some_iff.1 hp
      rw [h _ _ _ hg (hG x (items_pre k _ _ _ hp x (by simp)))]
      exact ih _ _ _ hp hG
    · exact hp
theorem list_dn {D : Nat} {f g : Rd} (h : Dn1 D f g) {l : List UInt8} {p : V × List UInt8} (hp : listS f l = some p) (hG : ∀ x ∈ p.1.l, GoodT D x) : listS g l = some p := by
  unfold listS at hp ⊢
  obtain ⟨l1, h1, hp⟩ := Option.bind_eq_some_iff.1 hp
  rw [h1]
  simp only [Option.bind_some]
  split at hp
  · exact hp
  · obtain ⟨⟨x, r2⟩, hg, hp⟩ := Option.bind_eq_some_iff.1 hp
    rw [h _ _ _ hg (hG x (items_pre _ _ _ _ hp x (by simp)))]
    exact items_dn h _ _ _ _ hp hG
theorem memV_in {t x : V} {k : List UInt8} (h : memV t k = some x) : k ∈ t.keys ∧ x ∈ t.l := by
  unfold memV at h
  obtain ⟨i, hi, hx⟩ := Option.bind_eq_some_iff.1 h
  refine ⟨?_, List.mem_of_getElem? hx⟩
  unfold findV at hi
  split at hi
  · exact List.mem_of_getElem? (idxL_lt hi).2
  · cases hi
theorem mem_kept {f : Rd} {v : V} {l : List UInt8} {p : V × List UInt8} (hv : pairedV v = true) (h : memS f v l = some p) : pairedV p.1 = true ∧ (∀ k x, memV v k = some x → memV p.1 k = some x) ∧ ∃ q l1 y, quotS l = some q ∧ markS 58 q.2 = some l1 ∧ f l1 = some (y, p.2) ∧ (memV v q.1).isSome = false ∧ p.1 = withV v q.1 y ∧ memV p.1 q.1 = some y := by
  unfold memS at h
  obtain ⟨q, h1, h⟩ := Option.bind_eq_some_iff.1 h
  obtain ⟨l1, h2, h⟩ := Option.bind_eq_some_iff.1 h
  obtain ⟨⟨y, r⟩, h3, h⟩ := Option.bind_eq_some_iff.1 h
  split at h
  · cases h
  · rename_i h4
    simp only [Option.some.injEq] at h
    subst h
    refine ⟨with_paired hv q.1 y, fun k x hk => ?_, q, l1, y, h1, h2, h3, by simpa using h4, rfl, mem_with hv q.1 y⟩
    by_cases e : k = q.1
    · rw [e] at hk; rw [hk] at h4; simp at h4
    · show memV (withV v q.1 y) k = some x
      rw [mem_other hv q.1 k y e, hk]
theorem membs_kept {f : Rd} (k : Nat) : ∀ (v : V) (l : List UInt8) (p : V × List UInt8), pairedV v = true → membsS f k v l = some p → ∀ key x, memV v key = some x → memV p.1 key = some x := by
  induction k with
  | zero => intro v l p _ hp; cases hp
  | succ k ih =>
    intro v l p hv hp key x hx
    rw [membsS] at hp
    split at hp
    · obtain ⟨q, hg, hp⟩ := Option.bind_eq_some_iff.1 hp
      obtain ⟨h1, h2, -⟩ := mem_kept hv hg
      exact ih _ _ _ h1 hp key x (h2 key x hx)
    · obtain ⟨r, hr, rfl⟩ := Option.map_eq_some_iff.1 hp
      exact hx
theorem mem_dn {D : Nat} {f g : Rd} (h : Dn1 D f g) {v : V} {l : List UInt8} {p : V × List UInt8} (hv : pairedV v = true) (hp : memS f v l = some p) (hG : ∀ k x, memV p.1 k = some x → k.length ≤ 60 ∧ GoodT D x) : memR g v l = some p := by
  obtain ⟨-, -, q, l1, y, h1, h2, h3, h4, h5, h6⟩ := mem_kept hv hp
  obtain ⟨g1, g2⟩ := hG _ _ h6
  unfold memR quotR
  rw [h1]
  simp only [Option.bind_some]
  rw [if_pos g1]
  simp only [Option.bind_some, h2]
  rw [h _ _ _ h3 g2]
  simp only [Option.bind_some]
  rw [if_neg (by rw [h4]; simp), ← h5]
theorem membs_dn {D : Nat} {f g : Rd} (h : Dn1 D f g) (k : Nat) : ∀ (v : V) (l : List UInt8) (p : V × List UInt8), pairedV v = true → membsS f k v l = some p → (∀ k x, memV p.1 k = some x → k.length ≤ 60 ∧ GoodT D x) → membsR g k v l = some p := by
  induction k with
  | zero => intro v l p _ hp; cases hp
  | succ k ih =>
    intro v l p hv hp hG
    rw [membsS] at hp
    rw [membsR]
    cases hm : markS 44 l with
    | some r =>
      rw [hm] at hp
      simp only at hp ⊢
      obtain ⟨q, hg, hp⟩ := Option.bind_eq_some_iff.1 hp
      have h1 := (mem_kept hv hg).1
      rw [mem_dn h hv hg (fun k x hk => hG k x (membs_kept _ _ _ _ h1 hp k x hk))]
      exact ih _ _ _ h1 hp hG
    | none =>
      rw [hm] at hp
      exact hp
theorem obj_dn {D : Nat} {f g : Rd} (h : Dn1 D f g) {l : List UInt8} {p : V × List UInt8} (hp : objS f l = some p) (hG : ∀ k x, memV p.1 k = some x → k.length ≤ 60 ∧ GoodT D x) : objR g l = some p := by
  unfold objS at hp
  unfold objR
  obtain ⟨l1, h1, hp⟩ := Option.bind_eq_some_iff.1 hp
  rw [h1]
  simp only [Option.bind_some]
  cases hm : markS 125 l1 with
  | some r => rw [hm] at hp; exact hp
  | none =>
    rw [hm] at hp
    simp only at hp ⊢
    obtain ⟨q, hg, hp⟩ := Option.bind_eq_some_iff.1 hp
    have h0 : pairedV ⟨5, 0, [], [], []⟩ = true := by decide
    have h2 := (mem_kept h0 hg).1
    rw [mem_dn h h0 hg (fun k x hk => hG k x (membs_kept _ _ _ _ h2 hp k x hk))]
    exact membs_dn h _ _ _ _ h2 hp hG
theorem shaped_text {s : List UInt8} (h : shapedB (leafV 3 0 s) = true) : s.length ≤ 60 := by
  simp only [shapedB, leafV] at h
  simp [plainB] at h
  exact h.1.1
theorem shaped_num {n : Int} (h : shapedB (leafV 2 n []) = true) : -9007199254740992 ≤ n ∧ n ≤ 9007199254740992 := by
  exact (shaped_small h).2.2.2
theorem val_dn (D : Nat) : ∀ (F : Nat), Dn1 D (valS F) (valR D) := by
  induction D with
  | zero => intro F l v r _ h; exact h.elim
  | succ D ih =>
    intro F l v r h hG
    cases F with
    | zero => cases h
    | succ F =>
      have hd := ih F
      rw [valS] at h
      rw [valR]
      unfold oneS at h
      unfold oneQ
      by_cases c1 : hd0 (l.dropWhile isSp) = 110
      · rw [if_pos c1] at h ⊢; exact h
      rw [if_neg c1] at h ⊢
      by_cases c2 : hd0 (l.dropWhile isSp) = 102
      · rw [if_pos c2] at h ⊢; exact h
      rw [if_neg c2] at h ⊢
      by_cases c3 : hd0 (l.dropWhile isSp) = 116
      · rw [if_pos c3] at h ⊢; exact h
      rw [if_neg c3] at h ⊢
      by_cases c4 : hd0 (l.dropWhile isSp) = 34
      · rw [if_pos c4] at h ⊢
        obtain ⟨q, h1, h2⟩ := Option.map_eq_some_iff.1 h
        simp only [Prod.mk.injEq] at h2
        obtain ⟨rfl, rfl⟩ := h2
        unfold quotR
        rw [h1]
        simp only [Option.bind_some]
        rw [if_pos (shaped_text hG.1)]
        rfl
      rw [if_neg c4] at h ⊢
      by_cases c5 : hd0 (l.dropWhile isSp) = 91
      · rw [if_pos c5] at h ⊢; exact list_dn hd h (fun x hx => hG.2 x hx)
      rw [if_neg c5] at h ⊢
      by_cases c6 : hd0 (l.dropWhile isSp) = 123
      · rw [if_pos c6] at h ⊢
        refine obj_dn hd h (fun k x hk => ?_)
        obtain ⟨h1, h2⟩ := memV_in hk
        exact ⟨(shaped_small hG.1).2.2.1 k h1, hG.2 x h2⟩
      rw [if_neg c6] at h ⊢
      obtain ⟨q, h1, h2⟩ := Option.map_eq_some_iff.1 h
      simp only [Prod.mk.injEq] at h2
      obtain ⟨rfl, rfl⟩ := h2
      obtain ⟨h3, h4⟩ := shaped_num hG.1
      obtain ⟨h5, h6⟩ := numR_of (r := q.2) (n := q.1) h1 h3 h4
      rw [h5, if_pos h6]
      rfl
theorem gap_head {r : List UInt8} (h : r.dropWhile isSp = []) : isNum (hd0 r) = false := by
  cases r with
  | nil => decide
  | cons x t =>
    by_cases hx : isSp x = true
    · exact isNum_gap hx
    · rw [List.dropWhile_cons, if_neg hx] at h; cases h
theorem parseR_eq (l : List UInt8) : parseR l = parseS l := by
  unfold parseR parseS
  split
  · rfl
  · have hf : valS (l.length + 1) l = valS (l.length + 13) l := valS_fuel _ _ _ (by omega) (by omega)
    unfold parseV
    rw [hf]
    cases hr : valR 12 l with
    | none =>
      cases hs : valS (l.length + 13) l with
      | none => rfl
      | some p =>
        simp only [Option.bind_some]
        by_cases hg : p.2.dropWhile isSp = [] ∧ goodV p.1 = true
        · have := val_dn 12 _ l p.1 p.2 hs (goodV_tree hg.2)
          rw [hr] at this; cases this
        · rw [if_neg hg]
    | some p =>
      simp only
      by_cases hg : p.2.dropWhile isSp = [] ∧ goodV p.1 = true
      · rw [if_pos hg, val_up 12 _ (by omega) l p.1 p.2 hr (gap_head hg.1)]
        simp only [Option.bind_some]
        rw [if_pos hg]
      · rw [if_neg hg]
        cases hs : valS (l.length + 13) l with
        | none => rfl
        | some q =>
          simp only [Option.bind_some]
          by_cases hq : q.2.dropWhile isSp = [] ∧ goodV q.1 = true
          · have := val_dn 12 _ l q.1 q.2 hs (goodV_tree hq.2)
            rw [hr] at this
            simp only [Option.some.injEq] at this
            exact absurd (by rw [this]; exact hq) hg
          · rw [if_neg hq]
end Go.Proofs.YtkboplcffailoaaDoor

/- What skip of package stairwellref does. -/
set_option linter.unusedSimpArgs false
set_option linter.unusedVariables false
namespace Go.Proofs.YtkboplcffailoaaDoor
open Go.RowKit

theorem ba_len (s : List UInt8) : (ByteArray.mk s.toArray).size = s.length := by simp [ByteArray.size]
set_option maxRecDepth 100000 in
set_option maxHeartbeats 4000000 in
theorem skip_at (w : World) (s : List UInt8) (i : Nat) (hs : s.length ≤ 2000) (hi : i ≤ s.length) :
    Calls Tryd.prog 12 #[str s, .int .i64 i] w fun e w' => ∃ j : Nat, e = .returned (.int .i64 j) ∧ i ≤ j ∧ j ≤ s.length ∧ s.drop j = (s.drop i).dropWhile isSp ∧ w' = w := by
  unfold str
  go_enter Tryd.func12, Tryd.ntmps12
  go_wp2_with fail
  go_loopg [1] (s.length - i) (fun gk iv wr => ∃ k : Nat, i ≤ k ∧ k ≤ s.length ∧ gk = s.length - k ∧ iv = .int .i64 k ∧ Hid ((s.drop k).dropWhile isSp = (s.drop i).dropWhile isSp) ∧ wr = w)
  case atStart => exact ⟨i, Nat.le_refl _, hi, by first | rfl | omega, rfl, hidI rfl, rfl⟩
  case round =>
    obtain ⟨k, hik, hk, hgk, rfl, hd, rfl⟩ := hrel
    have GK := hidI hgk
    clear hgk
    by_cases hlt : k < s.length
    · have hszm : k < (ByteArray.mk s.toArray).size := by rw [ba_len]; exact hlt
      have hgetm : (ByteArray.mk s.toArray)[k] = s[k] := rfl
      have v1 : (0 : Int) ≤ (k : Int) := by omega
      have v2 : (k : Int) < (s.length : Int) := by omega
      have hdr := List.drop_eq_getElem_cons hlt
      obtain ⟨c, hc⟩ : ∃ c, s[k] = c := ⟨_, rfl⟩
      rw [hc] at hgetm hdr
      have HDR := hidI hdr
      clear hc hdr
      cases hsp : isSp c with
      | true =>
        have DN : Hid ((s.drop (k + 1)).dropWhile isSp = (s.drop i).dropWhile isSp) := hidI (by rw [← hd.out, HDR.out, List.dropWhile_cons, if_pos hsp])
        have hg4 := gap_no hsp
        clear hsp
        rcases hg4 with hc | hc | hc | hc
        · have n32 : ((c.toNat : Int) == 32) = true := by rw [hc]; rfl
          have n9 : ((c.toNat : Int) == 9) = false := by rw [hc]; rfl
          have n10 : ((c.toNat : Int) == 10) = false := by rw [hc]; rfl
          have n13 : ((c.toNat : Int) == 13) = false := by rw [hc]; rfl
          clear hc
          go_wp2_with fail
          go_roundg (s.length - (k + 1))
          case measure => rw [GK.out]; omega
          case rel => exact ⟨k + 1, by omega, by omega, rfl, by go_num, DN, rfl⟩
        · have n32 : ((c.toNat : Int) == 32) = false := by rw [hc]; rfl
          have n9 : ((c.toNat : Int) == 9) = true := by rw [hc]; rfl
          have n10 : ((c.toNat : Int) == 10) = false := by rw [hc]; rfl
          have n13 : ((c.toNat : Int) == 13) = false := by rw [hc]; rfl
          clear hc
          go_wp2_with fail
          go_roundg (s.length - (k + 1))
          case measure => rw [GK.out]; omega
          case rel => exact ⟨k + 1, by omega, by omega, rfl, by go_num, DN, rfl⟩
        · have n32 : ((c.toNat : Int) == 32) = false := by rw [hc]; rfl
          have n9 : ((c.toNat : Int) == 9) = false := by rw [hc]; rfl
          have n10 : ((c.toNat : Int) == 10) = true := by rw [hc]; rfl
          have n13 : ((c.toNat : Int) == 13) = false := by rw [hc]; rfl
          clear hc
          go_wp2_with fail
          go_roundg (s.length - (k + 1))
          case measure => rw [GK.out]; omega
          case rel => exact ⟨k + 1, by omega, by omega, rfl, by go_num, DN, rfl⟩
        · have n32 : ((c.toNat : Int) == 32) = false := by rw [hc]; rfl
          have n9 : ((c.toNat : Int) == 9) = false := by rw [hc]; rfl
          have n10 : ((c.toNat : Int) == 10) = false := by rw [hc]; rfl
          have n13 : ((c.toNat : Int) == 13) = true := by rw [hc]; rfl
          clear hc
          go_wp2_with fail
          go_roundg (s.length - (k + 1))
          case measure => rw [GK.out]; omega
          case rel => exact ⟨k + 1, by omega, by omega, rfl, by go_num, DN, rfl⟩
      | false =>
        have FIN : Hid (s.drop k = (s.drop i).dropWhile isSp) := hidI (by rw [← hd.out, HDR.out, List.dropWhile_cons, if_neg (by rw [hsp]; simp)])
        have n32 : ((c.toNat : Int) == 32) = false := by rw [beq_eq_false_iff_ne]; intro e; have e2 : c = 32 := UInt8.toNat_inj.1 (by show c.toNat = 32; omega); rw [e2] at hsp; revert hsp; decide
        have n9 : ((c.toNat : Int) == 9) = false := by rw [beq_eq_false_iff_ne]; intro e; have e2 : c = 9 := UInt8.toNat_inj.1 (by show c.toNat = 9; omega); rw [e2] at hsp; revert hsp; decide
        have n10 : ((c.toNat : Int) == 10) = false := by rw [beq_eq_false_iff_ne]; intro e; have e2 : c = 10 := UInt8.toNat_inj.1 (by show c.toNat = 10; omega); rw [e2] at hsp; revert hsp; decide
        have n13 : ((c.toNat : Int) == 13) = false := by rw [beq_eq_false_iff_ne]; intro e; have e2 : c = 13 := UInt8.toNat_inj.1 (by show c.toNat = 13; omega); rw [e2] at hsp; revert hsp; decide
        clear hsp
        go_wp2_with fail
        go_ret
        exact ⟨k, rfl, hik, hk, FIN.out, rfl⟩
    · have d1 : ¬ (k : Int) < (s.length : Int) := by omega
      have FIN : Hid (s.drop k = (s.drop i).dropWhile isSp) := hidI (by rw [← hd.out, List.drop_eq_nil_of_le (by omega)]; rfl)
      go_wp2_with fail
      go_ret
      exact ⟨k, rfl, hik, hk, FIN.out, rfl⟩
end Go.Proofs.YtkboplcffailoaaDoor

/- What textAt of package stairwellref does. -/
set_option linter.unusedSimpArgs false
set_option linter.unusedVariables false
namespace Go.Proofs.YtkboplcffailoaaDoor
open Go.RowKit

def bod (acc l : List UInt8) : Option (List UInt8 × List UInt8) := bodyS (l.length + 1) acc l
def txtR (l : List UInt8) : Option (List UInt8 × List UInt8) := (bod [] l).bind fun p => if p.1.length ≤ 60 then some p else none
theorem quotR_txt (r : List UInt8) : quotR (34 :: r) = txtR r := by
  unfold quotR quotS txtR bod
  rw [markS_cons 34 (by decide)]
  rfl
theorem bod_nil (acc : List UInt8) : bod acc [] = none := rfl
theorem bod_end (acc l : List UInt8) : bod acc (34 :: l) = some (acc, l) := by simp [bod, bodyS]
theorem bod_plain (acc l : List UInt8) (c : UInt8) (h1 : c ≠ 34) (h2 : c ≠ 92) (h3 : ¬ (c.toNat < 32 ∨ 127 ≤ c.toNat)) : bod acc (c :: l) = bod (acc ++ [c]) l := by
  unfold bod
  rw [List.length_cons, bodyS, if_neg h1, if_neg h2, if_neg h3]
theorem bod_bad (acc l : List UInt8) (c : UInt8) (h1 : c ≠ 34) (h3 : c.toNat < 32 ∨ 127 ≤ c.toNat) : bod acc (c :: l) = none := by
  unfold bod
  rw [List.length_cons, bodyS, if_neg h1, if_neg (by rintro rfl; revert h3; decide), if_pos h3]
theorem bod_esc (acc l : List UInt8) : bod acc (92 :: l) = (escS l).bind fun p => bod (acc ++ [p.1]) p.2 := by
  unfold bod
  rw [List.length_cons, bodyS, if_neg (by decide), if_pos rfl]
  cases h : escS l with
  | none => rfl
  | some p =>
    have := escS_len h
    exact bodyS_fuel _ _ _ _ (by omega) (by omega)
def escL : List UInt8 := [34, 92, 47, 98, 102, 110, 114, 116]
theorem esc_in (c : UInt8) (h : c ∈ escL) : ∃ i : Nat, i < 8 ∧ Lib.indexByte escL c = i ∧ ∃ d, ([34, 92, 47, 8, 12, 10, 13, 9] : List UInt8)[i]? = some d ∧ ∀ l, escS (c :: l) = some (d, l) := by
  simp only [escL, List.mem_cons, List.not_mem_nil, or_false] at h
  rcases h with rfl | rfl | rfl | rfl | rfl | rfl | rfl | rfl
  · exact ⟨0, by decide, by decide, 34, rfl, fun l => rfl⟩
  · exact ⟨1, by decide, by decide, 92, rfl, fun l => rfl⟩
  · exact ⟨2, by decide, by decide, 47, rfl, fun l => rfl⟩
  · exact ⟨3, by decide, by decide, 8, rfl, fun l => rfl⟩
  · exact ⟨4, by decide, by decide, 12, rfl, fun l => rfl⟩
  · exact ⟨5, by decide, by decide, 10, rfl, fun l => rfl⟩
  · exact ⟨6, by decide, by decide, 13, rfl, fun l => rfl⟩
  · exact ⟨7, by decide, by decide, 9, rfl, fun l => rfl⟩
theorem esc_out (c : UInt8) (h : c ∉ escL) (hu : c ≠ 117) (l : List UInt8) : escS (c :: l) = none := by
  simp only [escL, List.mem_cons, List.not_mem_nil, or_false, not_or] at h
  simp [escS, hu, h, escB]
theorem digs_short (k : Nat) : ∀ (n : Nat) (l : List UInt8), l.length < k → digsS k n l = none := by
  induction k with
  | zero => intro n l h; omega
  | succ k ih =>
    intro n l h
    rw [digsS]
    cases hd : digS l with
    | none => rfl
    | some p =>
      have := digS_len hd
      exact ih _ _ (by omega)
theorem digs_step (k n : Nat) (c : UInt8) (l : List UInt8) : digsS (k + 1) n (c :: l) = (hexv c).bind fun d => digsS k (n * 16 + d) l := by
  rw [digsS, digS]
  cases hexv c <;> rfl
theorem cut_ba (p : List UInt8) (a b : Nat) : (ByteArray.mk p.toArray).extract a b = ByteArray.mk ((p.drop a).take (b - a)).toArray := by
  have e : ((ByteArray.mk p.toArray).extract a b).data = ((p.drop a).take (b - a)).toArray := by
    rw [ByteArray.data_extract]
    apply Array.toList_inj.1
    simp [List.extract_eq_take_drop]
  cases hx : (ByteArray.mk p.toArray).extract a b with
  | mk d => rw [hx] at e; simp only at e; rw [e]
theorem brow_bel {w w' : World} {B : Nat} {v : Value} {acc : List UInt8} (h : BRow w B v acc) (hb : Below w.heap.size w w') : BRow w' B v acc := World.ownsRow.kept h (gb_below (r := none) hb) (by cases v.ownBlock <;> simp)
/- What textAt answers. -/
def TxA (s : List UInt8) (o : Option (List UInt8 × List UInt8)) (e : Ending) : Prop :=
  match o with
  | some p => ∃ j : Nat, e = .returned (.tuple #[str p.1, .int .i64 j]) ∧ j ≤ s.length ∧ s.drop j = p.2
  | none => e = .returned (.tuple #[str [], .int .i64 (-1)])
/- On the way. -/
def TxJ (w : World) (s : List UInt8) (i k : Nat) (acc : List UInt8) (bv : Value) (wr : World) : Prop :=
  BRow wr w.heap.size bv acc ∧ bod [] (s.drop (i + 1)) = bod acc (s.drop k) ∧ Below w.heap.size w wr ∧ acc.length ≤ k
theorem TxJ.form {w wr : World} {s acc : List UInt8} {i k : Nat} {bv : Value} (h : TxJ w s i k acc bv wr) : ∃ a c, bv = .slice a acc.length c := by
  rcases h.1.2 with ⟨h1, h2⟩ | ⟨g, cap, cur, h1, -⟩
  · exact ⟨none, 0, by rw [h1, h2]⟩
  · exact ⟨_, _, h1⟩
theorem TxJ.push {w wr w' : World} {s acc : List UInt8} {i k j : Nat} {bv bv' : Value} {d : UInt8} (h : TxJ w s i k acc bv wr) (hb : BRow w' w.heap.size bv' (acc ++ [d])) (hf : Fr w.heap.size wr w') (hj : k < j) (he : bod acc (s.drop k) = bod (acc ++ [d]) (s.drop j)) : TxJ w s i j (acc ++ [d]) bv' w' :=
  ⟨hb, h.2.1.trans he, h.2.2.1.trans hf.1, by have := h.2.2.2; simp; omega⟩
theorem txA_none {s : List UInt8} {l : List UInt8} (h : bod [] l = none) : TxA s (txtR l) (.returned (.tuple #[.string ⟨#[]⟩, .int .i64 (-1)])) := by
  unfold txtR
  rw [h]
  rfl

set_option maxRecDepth 100000 in
set_option maxHeartbeats 40000000 in
theorem textAt_at (w : World) (s : List UInt8) (i : Nat) (hs : s.length ≤ 2000) (hi : i < s.length) :
    Calls Tryd.prog 24 #[str s, .int .i64 i] w fun e w' => Below w.heap.size w w' ∧ TxA s (txtR (s.drop (i + 1))) e := by
  have I0 : Hid (TxJ w s i (i + 1) [] (.slice none 0 0) w) := hidI ⟨BRow.nil _ _, rfl, Below.refl _ _, by simp⟩
  unfold str
  go_enter Tryd.func24, Tryd.ntmps24
  go_wp2_with fail
  go_loopg [6, 7] (s.length - (i + 1)) (fun gk bv jv wr => ∃ (k : Nat) (acc : List UInt8), k ≤ s.length ∧ gk = s.length - k ∧ jv = .int .i64 k ∧ TxJ w s i k acc bv wr)
  case atStart => exact ⟨i + 1, [], by omega, rfl, by go_num, I0.out⟩
  case round =>
    obtain ⟨k, acc, hk, hgk, rfl, hJ⟩ := hrel
    obtain ⟨ba, bc, rfl⟩ := hJ.form
    have GK := hidI hgk
    have J := hidI hJ
    have hal : acc.length ≤ 2000 := by have := hJ.2.2.2; omega
    clear hgk hJ
    by_cases hlt : k < s.length
    · have hszm : k < (ByteArray.mk s.toArray).size := by rw [ba_len]; exact hlt
      have hgetm : (ByteArray.mk s.toArray)[k] = s[k] := rfl
      have v1 : (0 : Int) ≤ (k : Int) := by omega
      have v2 : (k : Int) < (s.length : Int) := by omega
      have hdr := List.drop_eq_getElem_cons hlt
      obtain ⟨c, hc⟩ : ∃ c, s[k] = c := ⟨_, rfl⟩
      rw [hc] at hgetm hdr
      have HDR := hidI hdr
      have hc256 : (c.toNat : Int) < 256 := by have := c.toNat_lt; omega
      have RW := hidI J.out.1
      have SZ := hidI J.out.2.2.1.size
      clear hc hdr
      by_cases h34 : c = 34
      · have n1 : ((c.toNat : Int) == 34) = true := by rw [h34]; rfl
        have RB : Hid (bod [] (s.drop (i + 1)) = some (acc, s.drop (k + 1))) := hidI (by rw [J.out.2.1, HDR.out, h34, bod_end])
        clear h34
        by_cases h60 : acc.length ≤ 60
        · have g60 : ¬ (60 : Int) < (acc.length : Int) := by omega
          have RT : Hid (txtR (s.drop (i + 1)) = some (acc, s.drop (k + 1))) := hidI (by unfold txtR; rw [RB.out]; simp [h60])
          clear h60
          rcases RW.out.2 with ⟨hv, hn⟩ | ⟨g, cap, cur, hv, -, -, hn1, hn2, -, -⟩
          · simp only [Value.slice.injEq] at hv
            obtain ⟨rfl, -, rfl⟩ := hv
            have hnil : acc = [] := List.eq_nil_of_length_eq_zero hn
            subst hnil
            have hcv := run_convert_bytes_nil (P := Tryd.prog) (w := wr) 51 5 Tryd.underlying51 Tryd.underlying5 0 0
            clear hn
            have e0 : ([] : List UInt8).length = 0 := rfl
            rw [e0] at g60 ⊢
            go_wp2_with fail
            go_ret2
            refine ⟨J.out.2.2.1, ?_⟩
            rw [RT.out]
            exact ⟨k + 1, by go_num, by omega, rfl⟩
          · simp only [Value.slice.injEq] at hv
            obtain ⟨rfl, -, rfl⟩ := hv
            unfold maxLen at hn2
            have h3 := RW.out
            have hcv := run_convert_bytes_back (P := Tryd.prog) wr 51 9 5 ⟨g, 0, none⟩ bc acc Tryd.underlying51 Tryd.underlying5 Tryd.underlying9 (fun j hj => World.ownsRow.cells h3 (g := g) rfl j _ (by simp [Lib.byteCells, hj]))
            clear h3
            go_wp2_with fail
            go_ret2
            refine ⟨J.out.2.2.1, ?_⟩
            rw [RT.out]
            exact ⟨k + 1, by go_num, by omega, rfl⟩
        · have g60 : (60 : Int) < (acc.length : Int) := by omega
          have RT : Hid (txtR (s.drop (i + 1)) = none) := hidI (by unfold txtR; rw [RB.out]; simp [h60])
          clear h60
          go_wp2_with fail
          go_ret2
          refine ⟨J.out.2.2.1, ?_⟩
          rw [RT.out]
          rfl
      · have n1 : ((c.toNat : Int) == 34) = false := by rw [beq_eq_false_iff_ne]; intro e; exact h34 (UInt8.toNat_inj.1 (by show c.toNat = 34; omega))
        by_cases hcl : c.toNat < 32 ∨ 127 ≤ c.toNat
        · have RN : Hid (bod [] (s.drop (i + 1)) = none) := hidI (by rw [J.out.2.1, HDR.out, bod_bad acc _ c h34 hcl])
          by_cases hlo : c.toNat < 32
          · have n2 : (c.toNat : Int) < 32 := by omega
            clear h34 hcl hlo
            go_wp2_with fail
            go_ret2
            exact ⟨J.out.2.2.1, txA_none RN.out⟩
          · have n2 : ¬ (c.toNat : Int) < 32 := by omega
            have n2b : (126 : Int) < (c.toNat : Int) := by omega
            clear h34 hcl hlo
            go_wp2_with fail
            go_ret2
            exact ⟨J.out.2.2.1, txA_none RN.out⟩
        · have n2 : ¬ (c.toNat : Int) < 32 := by omega
          have n2b : ¬ (126 : Int) < (c.toNat : Int) := by omega
          by_cases h92 : c = 92
          · have n3 : ((c.toNat : Int) != 92) = false := by rw [h92]; rfl
            have n4 : ((c.toNat : Int) == 92) = true := by rw [h92]; rfl
            have EB : Hid (bod acc (s.drop k) = (escS (s.drop (k + 1))).bind fun p => bod (acc ++ [p.1]) p.2) := hidI (by rw [HDR.out, h92, bod_esc])
            clear h34 h92 hcl
            by_cases hl2 : k + 1 < s.length
            · have z1 : (0 : Int) ≤ (k : Int) + 1 := by omega
              have z2 : (k : Int) + 1 < (s.length : Int) := by omega
              have z3 : ¬ (s.length : Int) ≤ (k : Int) + 1 := by omega
              have hszm2 : k + 1 < (ByteArray.mk s.toArray).size := by rw [ba_len]; exact hl2
              have hgetm2 : (ByteArray.mk s.toArray)[k + 1] = s[k + 1] := rfl
              have hdr2 := List.drop_eq_getElem_cons hl2
              obtain ⟨x, hx⟩ : ∃ x, s[k + 1] = x := ⟨_, rfl⟩
              rw [hx] at hgetm2 hdr2
              have HDR2 := hidI hdr2
              have hx8 : ((x.toNat : Int).toNat).toUInt8 = x := by simp
              have hx256 : (x.toNat : Int) < 256 := by have := x.toNat_lt; omega
              clear hx hdr2
              by_cases hm : x ∈ escL
              · obtain ⟨m, hm8, e1, d, hd, he⟩ := esc_in x hm
                have e1' : Lib.indexByte (ByteArray.mk #[34, 92, 47, 98, 102, 110, 114, 116]).data.toList ((x.toNat : Int).toNat).toUInt8 = m := by rw [hx8]; exact e1
                have NX : Hid (bod acc (s.drop k) = bod (acc ++ [d]) (s.drop (k + 1 + 1))) := hidI (by rw [EB.out, HDR2.out, he]; rfl)
                have hm7 : m < (ByteArray.mk #[34, 92, 47, 8, 12, 10, 13, 9]).size := hm8
                have hd' : (ByteArray.mk #[34, 92, 47, 8, 12, 10, 13, 9])[m] = d := ba_get (l := [34, 92, 47, 8, 12, 10, 13, 9]) hd hm7
                have hm9 : (m : Int) < 8 := by omega
                have hm0 : (0 : Int) ≤ (m : Int) := by omega
                clear hm hd he e1 hm8
                go_wp2_with fail
                refine (Tryd.strings_IndexByte _ _ _).mono ?_
                rintro e w1 ⟨rfl, rfl⟩
                rw [e1']
                clear e1'
                go_wp2_with (at_builtin; go_must (refine append_bytes rfl _ _ rfl w.heap.size (.slice ba acc.length bc) acc [d] _ (by simp [Lib.byteCells, hd']) 1 rfl rfl rfl (by exact RW.out) (by exact SZ.out) (by omega) (by decide) ?_); intro v4 w4 hown4 hgrow4; refine Hid.out ?_)
                refine hidI ?_
                have FIN := hidI (J.out.push hown4 hgrow4 (by omega) NX.out)
                clear hown4 hgrow4
                go_wp2_with fail
                go_roundg (s.length - (k + 1 + 1))
                case measure => rw [GK.out]; omega
                case rel => exact ⟨(k + 1 + 1), acc ++ [d], by omega, rfl, by go_num, FIN.out⟩
              · have e1' : Lib.indexByte (ByteArray.mk #[34, 92, 47, 98, 102, 110, 114, 116]).data.toList ((x.toNat : Int).toNat).toUInt8 = -1 := by rw [hx8]; exact idx_none x _ hm
                by_cases hu : x = 117
                · have u1 : ((x.toNat : Int) != 117) = false := by rw [hu]; rfl
                  have u2 : ((x.toNat : Int) == 117) = true := by rw [hu]; rfl
                  have CD : Hid (bod acc (s.drop k) = (codedS (s.drop (k + 1 + 1))).bind fun p => bod (acc ++ [p.1]) p.2) := hidI (by rw [EB.out, HDR2.out, hu]; rfl)
                  clear hm hu
                  by_cases h4 : k + 1 + 4 < s.length
                  · have q4 : ¬ (s.length : Int) ≤ (k : Int) + 1 + 4 := by omega
                    obtain ⟨u, hu4⟩ : ∃ u, (s.drop (k + 1 + 1)).take 4 = u := ⟨_, rfl⟩
                    have hul : u.length = 4 := by rw [← hu4]; simp; omega
                    have hcut : (ByteArray.mk s.toArray).extract (k + 1 + 1) (k + 1 + 5) = ByteArray.mk u.toArray := by rw [cut_ba, ← hu4]; congr 3; omega
                    have hdu : Hid (s.drop (k + 1 + 1) = u ++ s.drop (k + 1 + 5)) := hidI (by
                      rw [← hu4]
                      have := List.take_append_drop 4 (s.drop (k + 1 + 1))
                      rw [List.drop_drop] at this
                      exact this.symm)
                    have q5 : (0 : Int) ≤ (k : Int) + 1 + 1 := by omega
                    have q6 : (k : Int) + 1 + 1 ≤ (k : Int) + 1 + 5 := by omega
                    have q7 : (k : Int) + 1 + 5 ≤ (s.length : Int) := by omega
                    have q8 : (k : Int) + 1 + 5 ≤ ((ByteArray.mk s.toArray).size : Int) := by rw [ba_len]; omega
                    obtain ⟨cap, W2, hcv, h1, h2, h3, h4'⟩ := bytes_of wr u (by omega)
                    have HC := hidI h3
                    have HW : Hid (Below wr.heap.size wr W2) := hidI (by obtain ⟨os, rfl⟩ := h4'; exact bel_grow _ _ _)
                    clear h3 h4' hu4
                    go_wp2_with fail
                    refine (Tryd.strings_IndexByte _ _ _).mono ?_
                    rintro e w1 ⟨rfl, rfl⟩
                    rw [e1']
                    clear e1'
                    go_wp2_with fail
                    clear hcv hcut
                    have J2 : Hid (TxJ w s i k acc (.slice ba acc.length bc) W2) := hidI ⟨brow_bel J.out.1 HW.out, J.out.2.1, bel_trans J.out.2.2.1 HW.out, J.out.2.2.2⟩
                    have RW2 := hidI J2.out.1
                    have SZ2 := hidI J2.out.2.2.1.size
                    go_loopg [10, 81] 4 (fun gm nv iv wi => ∃ m n : Nat, m ≤ 4 ∧ gm = 4 - m ∧ iv = .int .i64 m ∧ nv = .int .i64 n ∧ n < 16 ^ m ∧ Hid (digsS 4 0 (s.drop (k + 1 + 1)) = digsS (4 - m) n (u.drop m ++ s.drop (k + 1 + 5))) ∧ wi = W2)
                    case atStart => exact ⟨0, 0, by omega, rfl, rfl, rfl, by decide, hidI (by rw [hdu.out]; rfl), rfl⟩
                    case round =>
                      obtain ⟨m, n, hm4, hgm, rfl, rfl, hn16, DG, rfl⟩ := hrel
                      have GM := hidI hgm
                      have hn9 : n < 65536 + 1 := by
                        have : 16 ^ m ≤ 16 ^ 4 := Nat.pow_le_pow_right (by omega) hm4
                        omega
                      clear hgm
                      by_cases hmt : m < 4
                      · have c9 := HC.out m (by omega)
                        obtain ⟨y, hy⟩ : ∃ y, u[m]'(by omega) = y := ⟨_, rfl⟩
                        rw [hy] at c9
                        have hud : u.drop m = y :: u.drop (m + 1) := by rw [List.drop_eq_getElem_cons (by omega), hy]
                        have HS : Hid (digsS (4 - m) n (u.drop m ++ s.drop (k + 1 + 5)) = (hexv y).bind fun d => digsS (4 - (m + 1)) (n * 16 + d) (u.drop (m + 1) ++ s.drop (k + 1 + 5))) := hidI (by
                          rw [hud, show 4 - m = (4 - (m + 1)) + 1 by omega, List.cons_append, digs_step])
                        have y256 : (y.toNat : Int) < 256 := by have := y.toNat_lt; omega
                        have v1' : (0 : Int) ≤ (m : Int) := by omega
                        have v2' : (m : Int) < (u.length : Int) := by omega
                        have v2'' : (m : Int) < 4 := by omega
                        try rw [hul]
                        clear hy hud
                        by_cases t1 : 48 ≤ y.toNat ∧ y.toNat ≤ 57
                        · have r1 : (48 : Int) ≤ (y.toNat : Int) := by omega
                          have r2 : (y.toNat : Int) ≤ 57 := by omega
                          have wx : IntKind.u8.wrap ((y.toNat : Int) - 48) = (y.toNat : Int) - 48 := by
                            simp only [IntKind.wrap, IntKind.signed, IntKind.bits]
                            simp
                            omega
                          have hxv : hexv y = some (y.toNat - 48) := by unfold hexv; rw [if_pos t1]
                          have NX : Hid (digsS 4 0 (s.drop (k + 1 + 1)) = digsS (4 - (m + 1)) (n * 16 + (y.toNat - 48)) (u.drop (m + 1) ++ s.drop (k + 1 + 5))) := hidI (by rw [DG.out, HS.out, hxv]; rfl)
                          have NB : Hid (n * 16 + (y.toNat - 48) < 16 ^ (m + 1)) := hidI (by rw [Nat.pow_succ]; omega)
                          clear hxv hn16
                          go_wp2_with fail
                          go_roundg (4 - (m + 1))
                          case measure => rw [GM.out]; omega
                          case rel => exact ⟨m + 1, n * 16 + (y.toNat - 48), by omega, rfl, by go_num, (by first | go_num | (congr 1; omega) | (simp; omega)), NB.out, NX, rfl⟩
                        by_cases t2 : 97 ≤ y.toNat ∧ y.toNat ≤ 102
                        · have r1 : (48 : Int) ≤ (y.toNat : Int) := by omega
                          have r2 : ¬ (y.toNat : Int) ≤ 57 := by omega
                          have r3 : (97 : Int) ≤ (y.toNat : Int) := by omega
                          have r4 : (y.toNat : Int) ≤ 102 := by omega
                          have wx : IntKind.u8.wrap ((y.toNat : Int) - 97) = (y.toNat : Int) - 97 := by
                            simp only [IntKind.wrap, IntKind.signed, IntKind.bits]
                            simp
                            omega
                          have hxv : hexv y = some (y.toNat - 87) := by unfold hexv; rw [if_neg t1, if_pos t2]
                          have NX : Hid (digsS 4 0 (s.drop (k + 1 + 1)) = digsS (4 - (m + 1)) (n * 16 + (y.toNat - 87)) (u.drop (m + 1) ++ s.drop (k + 1 + 5))) := hidI (by rw [DG.out, HS.out, hxv]; rfl)
                          have NB : Hid (n * 16 + (y.toNat - 87) < 16 ^ (m + 1)) := hidI (by rw [Nat.pow_succ]; omega)
                          clear hxv hn16
                          go_wp2_with fail
                          go_roundg (4 - (m + 1))
                          case measure => rw [GM.out]; omega
                          case rel => exact ⟨m + 1, n * 16 + (y.toNat - 87), by omega, rfl, by go_num, (by first | go_num | (congr 1; omega) | (simp; omega)), NB.out, NX, rfl⟩
                        by_cases t3 : 65 ≤ y.toNat ∧ y.toNat ≤ 70
                        · have r1 : (48 : Int) ≤ (y.toNat : Int) := by omega
                          have r2 : ¬ (y.toNat : Int) ≤ 57 := by omega
                          have r3 : ¬ (97 : Int) ≤ (y.toNat : Int) := by omega
                          have r5 : (65 : Int) ≤ (y.toNat : Int) := by omega
                          have r6 : (y.toNat : Int) ≤ 70 := by omega
                          have wx : IntKind.u8.wrap ((y.toNat : Int) - 65) = (y.toNat : Int) - 65 := by
                            simp only [IntKind.wrap, IntKind.signed, IntKind.bits]
                            simp
                            omega
                          have hxv : hexv y = some (y.toNat - 55) := by unfold hexv; rw [if_neg t1, if_neg t2, if_pos t3]
                          have NX : Hid (digsS 4 0 (s.drop (k + 1 + 1)) = digsS (4 - (m + 1)) (n * 16 + (y.toNat - 55)) (u.drop (m + 1) ++ s.drop (k + 1 + 5))) := hidI (by rw [DG.out, HS.out, hxv]; rfl)
                          have NB : Hid (n * 16 + (y.toNat - 55) < 16 ^ (m + 1)) := hidI (by rw [Nat.pow_succ]; omega)
                          clear hxv hn16
                          go_wp2_with fail
                          go_roundg (4 - (m + 1))
                          case measure => rw [GM.out]; omega
                          case rel => exact ⟨m + 1, n * 16 + (y.toNat - 55), by omega, rfl, by go_num, (by first | go_num | (congr 1; omega) | (simp; omega)), NB.out, NX, rfl⟩
                        have hxv : hexv y = none := by unfold hexv; rw [if_neg t1, if_neg t2, if_neg t3]
                        have RN : Hid (bod [] (s.drop (i + 1)) = none) := hidI (by rw [J2.out.2.1, CD.out]; unfold codedS; rw [DG.out, HS.out, hxv]; rfl)
                        clear hxv
                        by_cases t4 : y.toNat < 48
                        · have r1 : ¬ (48 : Int) ≤ (y.toNat : Int) := by omega
                          have r3 : ¬ (97 : Int) ≤ (y.toNat : Int) := by omega
                          have r5 : ¬ (65 : Int) ≤ (y.toNat : Int) := by omega
                          go_wp2_with fail
                          go_ret2
                          exact ⟨J2.out.2.2.1, txA_none RN.out⟩
                        by_cases t5 : y.toNat < 65
                        · have r1 : (48 : Int) ≤ (y.toNat : Int) := by omega
                          have r2 : ¬ (y.toNat : Int) ≤ 57 := by omega
                          have r3 : ¬ (97 : Int) ≤ (y.toNat : Int) := by omega
                          have r5 : ¬ (65 : Int) ≤ (y.toNat : Int) := by omega
                          go_wp2_with fail
                          go_ret2
                          exact ⟨J2.out.2.2.1, txA_none RN.out⟩
                        by_cases t6 : y.toNat < 97
                        · have r1 : (48 : Int) ≤ (y.toNat : Int) := by omega
                          have r2 : ¬ (y.toNat : Int) ≤ 57 := by omega
                          have r3 : ¬ (97 : Int) ≤ (y.toNat : Int) := by omega
                          have r5 : (65 : Int) ≤ (y.toNat : Int) := by omega
                          have r6 : ¬ (y.toNat : Int) ≤ 70 := by omega
                          go_wp2_with fail
                          go_ret2
                          exact ⟨J2.out.2.2.1, txA_none RN.out⟩
                        have r1 : (48 : Int) ≤ (y.toNat : Int) := by omega
                        have r2 : ¬ (y.toNat : Int) ≤ 57 := by omega
                        have r3 : (97 : Int) ≤ (y.toNat : Int) := by omega
                        have r4 : ¬ (y.toNat : Int) ≤ 102 := by omega
                        have r5 : (65 : Int) ≤ (y.toNat : Int) := by omega
                        have r6 : ¬ (y.toNat : Int) ≤ 70 := by omega
                        go_wp2_with fail
                        go_ret2
                        exact ⟨J2.out.2.2.1, txA_none RN.out⟩
                      · have hm5 : m = 4 := by omega
                        subst hm5
                        have d4 : ¬ ((4 : Nat) : Int) < 4 := by omega
                        have CE : Hid (codedS (s.drop (k + 1 + 1)) = if n < 128 then some (n.toUInt8, s.drop (k + 1 + 5)) else none) := hidI (by
                          unfold codedS
                          rw [DG.out]
                          have : u.drop 4 = [] := List.drop_eq_nil_of_le (by omega)
                          rw [this]
                          rfl)
                        try rw [hul]
                        by_cases h128 : n < 128
                        · have g1 : ¬ (127 : Int) < (n : Int) := by omega
                          have wn : IntKind.u8.wrap (n : Int) = (n : Int) := by
                            simp only [IntKind.wrap, IntKind.signed, IntKind.bits]
                            simp
                            omega
                          have hn8 : ((n.toUInt8.toNat : Nat) : Int) = (n : Int) := by simp; omega
                          have NX : Hid (bod acc (s.drop k) = bod (acc ++ [n.toUInt8]) (s.drop (k + 1 + 5))) := hidI (by rw [CD.out, CE.out, if_pos h128]; rfl)
                          clear h128 hn16 hn9
                          go_wp2_with (at_builtin; go_must (refine append_bytes rfl _ _ rfl w.heap.size (.slice ba acc.length bc) acc [n.toUInt8] _ (by simp only [Lib.byteCells, List.map_cons, List.map_nil, hn8]) 1 rfl rfl rfl (by exact RW2.out) (by exact SZ2.out) (by omega) (by decide) ?_); intro v4 w4 hown4 hgrow4; refine Hid.out ?_)
                          refine hidI ?_
                          have FIN := hidI (J2.out.push hown4 hgrow4 (show k < k + 1 + 5 by omega) NX.out)
                          clear hown4 hgrow4
                          go_wp2_with fail
                          go_roundg (s.length - (k + 1 + 5))
                          case measure => rw [GK.out]; omega
                          case rel => exact ⟨k + 1 + 5, acc ++ [n.toUInt8], by omega, rfl, by go_num, FIN.out⟩
                        · have g1 : (127 : Int) < (n : Int) := by omega
                          have RN : Hid (bod [] (s.drop (i + 1)) = none) := hidI (by rw [J2.out.2.1, CD.out, CE.out, if_neg h128]; rfl)
                          clear h128 hn16 hn9
                          go_wp2_with fail
                          go_ret2
                          exact ⟨J2.out.2.2.1, txA_none RN.out⟩
                  · have q4 : (s.length : Int) ≤ (k : Int) + 1 + 4 := by omega
                    have RN : Hid (bod [] (s.drop (i + 1)) = none) := hidI (by rw [J.out.2.1, CD.out]; unfold codedS; rw [digs_short 4 0 _ (by simp; omega)]; rfl)
                    go_wp2_with fail
                    refine (Tryd.strings_IndexByte _ _ _).mono ?_
                    rintro e w1 ⟨rfl, rfl⟩
                    rw [e1']
                    clear e1'
                    go_wp2_with fail
                    go_ret2
                    exact ⟨J.out.2.2.1, txA_none RN.out⟩
                · have u1 : ((x.toNat : Int) != 117) = true := by rw [bne_iff_ne]; intro e; exact hu (UInt8.toNat_inj.1 (by show x.toNat = 117; omega))
                  have u2 : ((x.toNat : Int) == 117) = false := by rw [beq_eq_false_iff_ne]; intro e; exact hu (UInt8.toNat_inj.1 (by show x.toNat = 117; omega))
                  have RN : Hid (bod [] (s.drop (i + 1)) = none) := hidI (by rw [J.out.2.1, EB.out, HDR2.out, esc_out x hm hu]; rfl)
                  clear hm hu
                  go_wp2_with fail
                  refine (Tryd.strings_IndexByte _ _ _).mono ?_
                  rintro e w1 ⟨rfl, rfl⟩
                  rw [e1']
                  clear e1'
                  go_wp2_with fail
                  go_ret2
                  exact ⟨J.out.2.2.1, txA_none RN.out⟩
            · have z3 : (s.length : Int) ≤ (k : Int) + 1 := by omega
              have RN : Hid (bod [] (s.drop (i + 1)) = none) := hidI (by rw [J.out.2.1, EB.out, List.drop_eq_nil_of_le (by omega)]; rfl)
              go_wp2_with fail
              go_ret2
              exact ⟨J.out.2.2.1, txA_none RN.out⟩
          · have n3 : ((c.toNat : Int) != 92) = true := by rw [bne_iff_ne]; intro e; exact h92 (UInt8.toNat_inj.1 (by show c.toNat = 92; omega))
            have n4 : ((c.toNat : Int) == 92) = false := by rw [beq_eq_false_iff_ne]; intro e; exact h92 (UInt8.toNat_inj.1 (by show c.toNat = 92; omega))
            have NX : Hid (bod acc (s.drop k) = bod (acc ++ [c]) (s.drop (k + 1))) := hidI (by rw [HDR.out, bod_plain acc _ c h34 h92 (by omega)])
            clear h34 h92 hcl
            go_wp2_with (at_builtin; go_must (refine append_bytes rfl _ _ rfl w.heap.size (.slice ba acc.length bc) acc [c] _ (by simp [Lib.byteCells]) 1 rfl rfl rfl (by exact RW.out) (by exact SZ.out) (by omega) (by decide) ?_); intro v4 w4 hown4 hgrow4; refine Hid.out ?_)
            refine hidI ?_
            have FIN := hidI (J.out.push hown4 hgrow4 (by omega) NX.out)
            clear hown4 hgrow4
            go_wp2_with fail
            go_roundg (s.length - (k + 1))
            case measure => rw [GK.out]; omega
            case rel => exact ⟨(k + 1), acc ++ [c], by omega, rfl, by go_num, FIN.out⟩
    · have d1 : ¬ (k : Int) < (s.length : Int) := by omega
      have RN : Hid (bod [] (s.drop (i + 1)) = none) := hidI (by rw [J.out.2.1, List.drop_eq_nil_of_le (by omega), bod_nil])
      go_wp2_with fail
      go_ret2
      exact ⟨J.out.2.2.1, txA_none RN.out⟩
end Go.Proofs.YtkboplcffailoaaDoor

/- Lists and objects in a text, plainly, from place to place; what valueAt answers. -/
set_option linter.unusedSimpArgs false
set_option linter.unusedVariables false
namespace Go.Proofs.YtkboplcffailoaaDoor
open Go.RowKit

theorem quotR_len {l : List UInt8} {p : List UInt8 × List UInt8} (h : quotR l = some p) : p.2.length < l.length := quotS_len (quot_up h).1
theorem memR_len {g : Rd} (hg : Less g) (v : V) : Less (memR g v) := by
  intro l p h
  unfold memR at h
  obtain ⟨q, h1, h⟩ := Option.bind_eq_some_iff.1 h
  obtain ⟨l1, h2, h⟩ := Option.bind_eq_some_iff.1 h
  obtain ⟨x, h3, h⟩ := Option.bind_eq_some_iff.1 h
  have a1 := quotR_len h1
  have a2 := markS_len h2
  have a3 := hg _ _ h3
  split at h
  · cases h
  · simp only [Option.some.injEq] at h
    rw [← h]
    simp only
    omega
theorem membsR_len {g : Rd} (hg : Less g) (k : Nat) : ∀ (v : V) (l : List UInt8) (p : V × List UInt8), membsR g k v l = some p → p.2.length < l.length := by
  induction k with
  | zero => intro v l p h; cases h
  | succ k ih =>
    intro v l p h
    rw [membsR] at h
    cases hm : markS 44 l with
    | some r =>
      rw [hm] at h
      obtain ⟨q, h1, h2⟩ := Option.bind_eq_some_iff.1 h
      have a1 := markS_len hm
      have a2 := memR_len hg v _ _ h1
      have a3 := ih _ _ _ h2
      omega
    | none =>
      rw [hm] at h
      obtain ⟨r, h1, h2⟩ := Option.map_eq_some_iff.1 h
      have a1 := markS_len h1
      have a2 := dropSp_len l
      rw [← h2]
      simp only
      omega
theorem objR_len {g : Rd} (hg : Less g) : Less (objR g) := by
  intro l p h
  unfold objR at h
  obtain ⟨l1, h1, h⟩ := Option.bind_eq_some_iff.1 h
  have a1 := markS_len h1
  cases hm : markS 125 l1 with
  | some r =>
    rw [hm] at h
    simp only [Option.some.injEq] at h
    have a2 := markS_len hm
    rw [← h]
    simp only
    omega
  | none =>
    rw [hm] at h
    obtain ⟨q, h2, h3⟩ := Option.bind_eq_some_iff.1 h
    have a2 := memR_len hg _ _ _ h2
    have a3 := membsR_len hg _ _ _ _ h3
    have a4 := dropSp_len l1
    omega
theorem numU_pos {l : List UInt8} (h : isNum (hd0 l) = true) : 0 < (numU l).length ∧ l ≠ [] := by
  cases l with
  | nil => revert h; decide
  | cons c r => simp [numU]
theorem valR_len (D : Nat) : Less (valR D) := by
  induction D with
  | zero => intro l p h; cases h
  | succ D ih =>
    intro l p h
    rw [valR] at h
    have a0 := dropSp_len l
    suffices hs : p.2.length < (l.dropWhile isSp).length by omega
    unfold oneQ at h
    split at h
    · obtain ⟨r, h1, h2⟩ := Option.map_eq_some_iff.1 h
      have := wordS_len (by decide) h1
      rw [← h2]; exact this
    split at h
    · obtain ⟨r, h1, h2⟩ := Option.map_eq_some_iff.1 h
      have := wordS_len (by decide) h1
      rw [← h2]; exact this
    split at h
    · obtain ⟨r, h1, h2⟩ := Option.map_eq_some_iff.1 h
      have := wordS_len (by decide) h1
      rw [← h2]; exact this
    split at h
    · obtain ⟨r, h1, h2⟩ := Option.map_eq_some_iff.1 h
      have := quotR_len h1
      rw [← h2]; exact this
    split at h
    · exact listS_len ih _ _ h
    split at h
    · exact objR_len ih _ _ h
    split at h
    · rename_i hn
      obtain ⟨r, h1, h2⟩ := Option.map_eq_some_iff.1 h
      obtain ⟨b1, b2⟩ := numU_pos hn
      have b3 : 0 < (l.dropWhile isSp).length := List.length_pos_iff.2 b2
      unfold numR at h1
      split at h1
      · simp only [Option.some.injEq] at h1
        rw [← h2, ← h1]
        simp only [List.length_drop]
        omega
      · cases h1
    · cases h
theorem valR_drop (D : Nat) (l : List UInt8) : valR D (l.dropWhile isSp) = valR D l := by
  cases D with
  | zero => rfl
  | succ D => rw [valR, valR, drop_idem]
theorem valR_nil (D : Nat) : valR D [] = none := by
  cases h : valR D [] with
  | none => rfl
  | some p => have := valR_len D _ _ h; simp at this
/- From place to place. -/
def its (g : Rd) (acc : List V) (l : List UInt8) : Option (V × List UInt8) := itemsS g (l.length + 1) acc l
def lst (g : Rd) (l : List UInt8) : Option (V × List UInt8) := match markS 93 l with | some r => some (⟨4, 0, [], [], []⟩, r) | none => (g l).bind fun p => its g [p.1] p.2
theorem mark_hit (c : UInt8) (h : isSp c = false) (r : List UInt8) : markS c (c :: r) = some r := markS_cons c h r
theorem mark_miss {c x : UInt8} (h : isSp x = false) (hx : x ≠ c) (r : List UInt8) : markS c (x :: r) = none := markS_other c x h hx r
theorem its_end (g : Rd) (acc : List V) (r : List UInt8) : its g acc (93 :: r) = some (⟨4, 0, [], [], acc⟩, r) := by
  unfold its
  rw [itemsS, mark_miss (by decide) (by decide), markS_drop, mark_hit 93 (by decide)]
  rfl
theorem its_comma {g : Rd} (hg : Less g) (acc : List V) (r : List UInt8) : its g acc (44 :: r) = (g r).bind fun p => its g (acc ++ [p.1]) p.2 := by
  unfold its
  rw [itemsS, mark_hit 44 (by decide)]
  simp only
  cases h : g r with
  | none => rfl
  | some p =>
    have := hg _ _ h
    exact itemsS_fuel hg _ _ _ _ (by simp; omega) (by omega)
theorem its_bad (g : Rd) (acc : List V) {c : UInt8} (h : isSp c = false) (h1 : c ≠ 44) (h2 : c ≠ 93) (r : List UInt8) : its g acc (c :: r) = none := by
  unfold its
  rw [itemsS, mark_miss h h1, markS_drop, mark_miss h h2]
  rfl
theorem its_nil (g : Rd) (acc : List V) : its g acc [] = none := rfl
theorem its_drop {g : Rd} (hg : Less g) (acc : List V) (l : List UInt8) : its g acc (l.dropWhile isSp) = its g acc l := by
  unfold its
  have hl := dropSp_len l
  rw [itemsS_fuel hg _ (l.length + 1) acc (l.dropWhile isSp) (by omega) (by omega)]
  rw [itemsS, itemsS, markS_drop, drop_idem]
theorem list_start (g : Rd) (hd : ∀ l, g (l.dropWhile isSp) = g l) (r : List UInt8) : listS g (91 :: r) = lst g (r.dropWhile isSp) := by
  unfold listS lst
  rw [mark_hit 91 (by decide), markS_drop]
  simp only [Option.bind_some]
  cases markS 93 r with
  | some q => rfl
  | none => rfl
theorem lst_end (g : Rd) (r : List UInt8) : lst g (93 :: r) = some (⟨4, 0, [], [], []⟩, r) := by
  unfold lst
  rw [mark_hit 93 (by decide)]
theorem lst_val (g : Rd) {c : UInt8} (h : isSp c = false) (h2 : c ≠ 93) (r : List UInt8) : lst g (c :: r) = (g (c :: r)).bind fun p => its g [p.1] p.2 := by
  unfold lst
  rw [mark_miss h h2]
theorem lst_nil (D : Nat) : lst (valR D) [] = none := by
  unfold lst
  have : markS 93 [] = none := rfl
  rw [this, valR_nil]
  rfl
/- What stands at a place behind spaces. -/
theorem head_ns {l l' : List UInt8} {c : UInt8} {r : List UInt8} (h : l' = l.dropWhile isSp) (hc : l' = c :: r) : isSp c = false := by
  have := List.head?_dropWhile_not (p := isSp) l
  rw [← h, hc] at this
  simpa using this
theorem drop_ns {l l' : List UInt8} (h : l' = l.dropWhile isSp) : l'.dropWhile isSp = l' := by rw [h, drop_idem]
/- What valueAt answers. -/
def VaA (s : List UInt8) (o : Option (V × List UInt8)) (B d : Nat) (e : Ending) (w' : World) : Prop :=
  match o with
  | some p => ∃ (a7 a8 : Option Addr) (c7 c8 j : Nat), e = .returned (.tuple #[.agg #[.int .i64 p.1.kind, .int .i64 p.1.n, .string ⟨p.1.s.toArray⟩, .slice a7 p.1.keys.length c7, .slice a8 p.1.l.length c8], .int .i64 j]) ∧ j ≤ s.length ∧ s.drop j = p.2 ∧ VIs w' (fun k => B ≤ k) d p.1 (.agg #[.int .i64 p.1.kind, .int .i64 p.1.n, .string ⟨p.1.s.toArray⟩, .slice a7 p.1.keys.length c7, .slice a8 p.1.l.length c8])
  | none => ∃ (k n : Int) (ss : List UInt8) (a7 a8 : Option Addr) (l7 c7 l8 c8 : Nat), e = .returned (.tuple #[.agg #[.int .i64 k, .int .i64 n, .string ⟨ss.toArray⟩, .slice a7 l7 c7, .slice a8 l8 c8], .int .i64 (-1)])
def RVal (D : Nat) : Prop := ∀ (w : World) (s : List UInt8) (i : Nat) (dep : Int), dep = 13 - (D : Int) → s.length ≤ 2000 → i ≤ s.length →
    Calls Tryd.prog 11 #[str s, .int .i64 i, .int .i64 dep] w fun e w' => Below w.heap.size w w' ∧ VaA s (valR D (s.drop i)) w.heap.size D e w'
end Go.Proofs.YtkboplcffailoaaDoor

/- What manyAt of package stairwellref does at a list. -/
set_option linter.unusedSimpArgs false
set_option linter.unusedVariables false
namespace Go.Proofs.YtkboplcffailoaaDoor
open Go.RowKit

/- On the way: the items so far, in the box of the value. -/
def MLI (D : Nat) (w : World) (acc : List V) (la : Option Addr) (lc : Nat) (wr : World) : Prop :=
  ∃ (g0 : Nat) (cs : List Value), BoxIs wr w.heap.size (.int .i64 0) (.int .i64 0) (.string ⟨#[]⟩) (.slice none 0 0) (.slice none 0 0) ∧ BoxIs wr (w.heap.size + 1) (.int .i64 4) (.int .i64 0) (.string ⟨#[]⟩) (.slice none 0 0) (.slice la acc.length lc) ∧ wr.ownsRow (w.heap.size + 2) 25 5 (.slice la acc.length lc) acc.length cs ∧ RowV (VIs wr (fun k => w.heap.size + 2 ≤ k ∧ k ≠ g0) D) acc cs ∧ ((.slice la acc.length lc : Value).ownBlock = none ∧ g0 = 0 ∨ (.slice la acc.length lc : Value).ownBlock = some g0) ∧ Below w.heap.size w wr
theorem MLI.bel {D : Nat} {w wr wr' : World} {acc : List V} {la : Option Addr} {lc : Nat} (h : MLI D w acc la lc wr) (hb : Below wr.heap.size wr wr') : MLI D w acc la lc wr' := by
  obtain ⟨g0, cs, h1, h2, h3, h4, h5, h6⟩ := h
  exact ⟨g0, cs, box_bel hb h1, box_bel hb h2, own_bel h3 hb, h4.imp fun _ _ h => h.bel hb, h5, bel_trans h6 hb⟩
theorem MLI.b {D : Nat} {w wr : World} {acc : List V} {la : Option Addr} {lc : Nat} (h : MLI D w acc la lc wr) : BoxIs wr w.heap.size (.int .i64 0) (.int .i64 0) (.string ⟨#[]⟩) (.slice none 0 0) (.slice none 0 0) ∧ BoxIs wr (w.heap.size + 1) (.int .i64 4) (.int .i64 0) (.string ⟨#[]⟩) (.slice none 0 0) (.slice la acc.length lc) ∧ Below w.heap.size w wr := by
  obtain ⟨g0, cs, h1, h2, h3, h4, h5, h6⟩ := h
  exact ⟨h1, h2, h6⟩
theorem VIs.belB {w w' : World} {ok : Nat → Prop} {d : Nat} {t : V} {v : Value} (h : VIs w ok d t v) (hb : Below w.heap.size w w') : VIs w' ok d t v := h.bel hb
theorem alz (w : World) (o : Obj) : (w.alloc o).heap.size = w.heap.size + 1 := by simp
/- An item more. -/
theorem MLI.push {D : Nat} {w wr : World} {acc : List V} {la a7 a8 : Option Addr} {lc c7 c8 B0 : Nat} {x : V} (h : MLI D w acc la lc wr) (hx : VIs wr (fun k => B0 ≤ k) D x (.agg #[.int .i64 x.kind, .int .i64 x.n, .string ⟨x.s.toArray⟩, .slice a7 x.keys.length c7, .slice a8 x.l.length c8])) (hB0 : w.heap.size + 2 ≤ B0) (hfr : ∀ g, (.slice la acc.length lc : Value).ownBlock = some g → g < B0) (hn : acc.length ≤ 1000000) (ty : TypeId) :
    ∃ g cap W', (Builtin.append_ #[23, 23] ty #[.slice la acc.length lc, .slice (some ⟨wr.heap.size, 0, none⟩) 1 1]).run Tryd.prog (wr.alloc (.cells #[.int .i64 x.kind, .int .i64 x.n, .string ⟨x.s.toArray⟩, .slice a7 x.keys.length c7, .slice a8 x.l.length c8] 25)) = .ok (.slice (some ⟨g, 0, none⟩) (acc.length + 1) cap) W' ∧ BoxIs W' (w.heap.size + 1) (.int .i64 4) (.int .i64 0) (.string ⟨#[]⟩) (.slice none 0 0) (.slice la acc.length lc) ∧
      MLI D w (acc ++ [x]) (some ⟨g, 0, none⟩) cap (W'.setCell ⟨w.heap.size + 1, 4, none⟩ (.slice (some ⟨g, 0, none⟩) (acc.length + 1) cap)) := by
  obtain ⟨g0, cs, h1, h2, h3, h4, h5, h6⟩ := h
  have hsz := h2.lt
  obtain ⟨g, cap, W', hr, ho, hg, hor⟩ := run_pushV (W := wr.alloc (.cells #[.int .i64 x.kind, .int .i64 x.n, .string ⟨x.s.toArray⟩, .slice a7 x.keys.length c7, .slice a8 x.l.length c8] 25)) (B := w.heap.size + 2) (v := .slice la acc.length lc) (n := acc.length) (cs := cs) (nb := wr.heap.size) (own_bel h3 (bel_alloc _ _)) (heap_alloc_new wr _) hn (by simp; omega) ty
  have hlow : ∀ k, (.slice la acc.length lc : Value).ownBlock = some k → w.heap.size + 2 ≤ k := fun k hk => (h3.lt k hk).1
  have g34 : wr.grownBy W' (.slice la acc.length lc : Value).ownBlock := gb_trans (World.grownBy_alloc wr _ _) hg
  have g5 : W'.grownBy (W'.setCell ⟨w.heap.size + 1, 4, none⟩ (.slice (some ⟨g, 0, none⟩) (acc.length + 1) cap)) (some (w.heap.size + 1)) := gb_set (gb_refl _ _) _ _
  have ne : ∀ k, k < w.heap.size + 2 → some k ≠ (.slice la acc.length lc : Value).ownBlock := fun k hk e => by have := hlow k e.symm; omega
  have hgW : ∀ k, (fun k => w.heap.size + 2 ≤ k ∧ k ≠ g0) k → k < wr.heap.size → w.heap.size + 2 ≤ k ∧ k ≠ g := by
    intro k hk hlt
    refine ⟨hk.1, fun e => ?_⟩
    subst e
    rcases hor with h0 | h0
    · rcases h5 with h9 | h9
      · rw [h9.1] at h0; cases h0
      · rw [h9] at h0; cases h0; exact hk.2 rfl
    · simp at h0; omega
  have conv : ∀ y v, VIs wr (fun k => w.heap.size + 2 ≤ k ∧ k ≠ g0) D y v → VIs (W'.setCell ⟨w.heap.size + 1, 4, none⟩ (.slice (some ⟨g, 0, none⟩) (acc.length + 1) cap)) (fun k => w.heap.size + 2 ≤ k ∧ k ≠ g) D y v := by
    intro y v hy
    have q1 := (hy.below.grown g34 (fun k hk e => by
      rcases h5 with h9 | h9
      · rw [h9.1] at e; cases e
      · rw [h9] at e; cases e; exact hk.1.2 rfl)).grown g5 (fun k hk e => by simp at e; omega)
    exact q1.weak fun k hk => hgW k hk.1 hk.2
  have hx' : VIs wr (fun k => w.heap.size + 2 ≤ k ∧ k ≠ g0) D x (.agg #[.int .i64 x.kind, .int .i64 x.n, .string ⟨x.s.toArray⟩, .slice a7 x.keys.length c7, .slice a8 x.l.length c8]) := hx.weak fun k hk => ⟨by omega, fun e => by
    subst e
    rcases h5 with h9 | h9
    · omega
    · have := hfr _ h9; omega⟩
  refine ⟨g, cap, W', hr, h2.grown g34 (ne _ (by omega)), g, cs ++ [.int .i64 x.kind, .int .i64 x.n, .string ⟨x.s.toArray⟩, .slice a7 x.keys.length c7, .slice a8 x.l.length c8], (h1.grown g34 (ne _ (by omega))).grown g5 (by simp), ?_, ?_, ?_, .inr rfl, ?_⟩
  · have := heap_set (h2.grown g34 (ne _ (by omega))) 4 (.slice (some ⟨g, 0, none⟩) (acc.length + 1) cap)
    simpa [BoxIs] using this
  · have := own_kept' ho g5 (by omega)
    simpa using this
  · have rx : RowV (VIs (W'.setCell ⟨w.heap.size + 1, 4, none⟩ (.slice (some ⟨g, 0, none⟩) (acc.length + 1) cap)) (fun k => w.heap.size + 2 ≤ k ∧ k ≠ g) D) [x] [.int .i64 x.kind, .int .i64 x.n, .string ⟨x.s.toArray⟩, .slice a7 x.keys.length c7, .slice a8 x.l.length c8] := ⟨_, _, _, _, _, [], rfl, conv _ _ hx', rfl⟩
    exact rx.append (h4.imp conv)
  · refine gb_far (gb_far h6 g34 (fun k hk => by have := hlow k hk; omega)) g5 (fun k hk => by cases hk; omega)
/- The value is handed out: its box's cells go into the box of the answer. -/
theorem MLI.out {D : Nat} {w wr : World} {acc : List V} {la : Option Addr} {lc : Nat} (h : MLI D w acc la lc wr) (hn : acc.length ≤ 1000000) :
    Below w.heap.size w (set5 wr w.heap.size (.int .i64 4) (.int .i64 0) (.string ⟨#[]⟩) (.slice none 0 0) (.slice la acc.length lc)) ∧ VIs (set5 wr w.heap.size (.int .i64 4) (.int .i64 0) (.string ⟨#[]⟩) (.slice none 0 0) (.slice la acc.length lc)) (fun k => w.heap.size ≤ k) (D + 1) ⟨4, 0, [], [], acc⟩ (.agg #[.int .i64 4, .int .i64 0, .string ⟨#[]⟩, .slice none 0 0, .slice la acc.length lc]) ∧ BoxIs (set5 wr w.heap.size (.int .i64 4) (.int .i64 0) (.string ⟨#[]⟩) (.slice none 0 0) (.slice la acc.length lc)) w.heap.size (.int .i64 4) (.int .i64 0) (.string ⟨#[]⟩) (.slice none 0 0) (.slice la acc.length lc) := by
  obtain ⟨g0, cs, h1, h2, h3, h4, h5, h6⟩ := h
  have g1 := set5_gb wr w.heap.size (.int .i64 4) (.int .i64 0) (.string ⟨#[]⟩) (.slice none 0 0) (.slice la acc.length lc)
  refine ⟨bel_set5 h6 (Nat.le_refl _) _ _ _ _ _, ⟨_, _, rfl, by unfold I64; simp, by unfold I64; simp, by simp [maxLen], ⟨by simp [maxLen], .inl ⟨rfl, none, rfl⟩⟩, ?_⟩, h1.set _ _ _ _ _⟩
  refine own_vals rfl (own_kept' h3 g1 (by omega)) ?_ (fun k hk => by omega) (by unfold maxLen; simp only; omega)
  exact h4.imp fun _ _ q => (q.grown g1 (fun k hk e => by simp at e; omega)).weak fun k hk => by omega

open Classical in
set_option maxRecDepth 100000 in
set_option maxHeartbeats 40000000 in
theorem many_list (D : Nat) (ih : RVal D) (w : World) (s : List UInt8) (i : Nat) (dep : Int) (hdep : dep + 1 = 13 - (D : Int)) (hD : D ≤ 12) (hs : s.length ≤ 2000) (hi : i < s.length) (h91 : s[i] = 91) :
    Calls Tryd.prog 27 #[str s, .int .i64 i, .int .i64 dep] w fun e w' => Below w.heap.size w w' ∧ VaA s (listS (valR D) (s.drop i)) w.heap.size (D + 1) e w' := by
  have IH := hidI ih
  have hdep1 : -1 ≤ dep := by omega
  have hdep2 : dep ≤ 13 := by omega
  have HD := hidI hdep
  have hszi : i < (ByteArray.mk s.toArray).size := by rw [ba_len]; exact hi
  have hgeti : (ByteArray.mk s.toArray)[i] = 91 := h91
  have LS : Hid (listS (valR D) (s.drop i) = lst (valR D) ((s.drop (i + 1)).dropWhile isSp)) := hidI (by rw [List.drop_eq_getElem_cons hi, h91]; exact list_start _ (valR_drop D) _)
  have v0 : (0 : Int) ≤ (i : Int) := by omega
  have v00 : (i : Int) < (s.length : Int) := by omega
  have I0 : Hid (MLI D w [] none 0 ((w.alloc (.cells #[.int .i64 0, .int .i64 0, .string ⟨#[]⟩, .slice none 0 0, .slice none 0 0] 25)).alloc (.cells #[.int .i64 4, .int .i64 0, .string ⟨#[]⟩, .slice none 0 0, .slice none 0 0] 25))) := hidI ⟨0, [], h2a w _ _, h2b w _ _, World.ownsRow_nil _ _ _ _, rfl, .inl ⟨rfl, rfl⟩, bel_trans (bel_alloc _ _) (bel_alloc _ _)⟩
  clear ih h91 hdep
  unfold str
  go_enter Tryd.func27, Tryd.ntmps27
  go_wp2_with fail
  refine (skip_at _ s (i + 1) hs (by omega)).mono ?_
  rintro e w1 ⟨k0, rfl, hk1, hk2, hk3, rfl⟩
  have SK : Hid (s.drop k0 = (s.drop (i + 1)).dropWhile isSp) := hidI hk3
  clear hk3
  go_wp2_with fail
  go_loopg [1, 10] (2 * (s.length - k0) + 1) (fun gk iv fv wr => ∃ (k : Nat) (b : Bool) (acc : List V) (la : Option Addr) (lc : Nat) (l0 : List UInt8), k ≤ s.length ∧ gk = 2 * (s.length - k) + (if b then 1 else 0) ∧ iv = .int .i64 k ∧ fv = .bool b ∧ (b = true → acc = []) ∧ acc.length ≤ k ∧ s.drop k = l0.dropWhile isSp ∧ Hid (listS (valR D) (s.drop i) = if b then lst (valR D) (s.drop k) else its (valR D) acc (s.drop k)) ∧ MLI D w acc la lc wr)
  case atStart => exact ⟨k0, true, [], none, 0, s.drop (i + 1), hk2, rfl, rfl, rfl, fun _ => rfl, by simp, SK.out, hidI (by rw [LS.out, SK.out]; rfl), I0.out⟩
  case round =>
    obtain ⟨k, b, acc, la, lc, l0, hk, hgk, rfl, rfl, hb0, hal, hns, TT, hM⟩ := hrel
    have GK := hidI hgk
    have NS := hidI hns
    have M := hidI hM
    have hal2 : acc.length ≤ 2000 := by omega
    obtain ⟨p0, p1, p2, p3, p4, q0, q1, q2, q3, q4⟩ := hM.b.1.c
    obtain ⟨m0, m1, m2, m3, m4, n0, n1, n2, n3, n4⟩ := hM.b.2.1.c
    clear hgk hns hM
    by_cases hlt : k < s.length
    · have hszm : k < (ByteArray.mk s.toArray).size := by rw [ba_len]; exact hlt
      have hgetm : (ByteArray.mk s.toArray)[k] = s[k] := rfl
      have v1 : (0 : Int) ≤ (k : Int) := by omega
      have v2 : (k : Int) < (s.length : Int) := by omega
      have v3 : ¬ (s.length : Int) ≤ (k : Int) := by omega
      have hdr := List.drop_eq_getElem_cons hlt
      obtain ⟨c, hc⟩ : ∃ c, s[k] = c := ⟨_, rfl⟩
      rw [hc] at hgetm hdr
      have HDR := hidI hdr
      have NSP : Hid (isSp c = false) := hidI (head_ns NS.out hdr)
      have hc256 : (c.toNat : Int) < 256 := by have := c.toNat_lt; omega
      clear hc hdr
      by_cases h93 : c = 93
      · have e1 : ((c.toNat : Int) == 93) = true := by rw [h93]; rfl
        have RS : Hid (listS (valR D) (s.drop i) = some (⟨4, 0, [], [], acc⟩, s.drop (k + 1))) := hidI (by
          rw [TT.out, HDR.out, h93]
          cases b with
          | true => rw [hb0 rfl]; exact lst_end (valR D) _
          | false => exact its_end (valR D) _ _)
        clear h93 TT
        have R := hidI (M.out.out (by omega))
        go_wp2_with fail
        obtain ⟨r1, r2, r3⟩ := R.out
        obtain ⟨z0, z1, z2, z3, z4, -⟩ := r3.c
        refine bodyPost_ret (v := .tuple #[.agg #[.int .i64 4, .int .i64 0, .string ⟨#[]⟩, .slice none 0 0, .slice la acc.length lc], .int .i64 ((k : Int) + 1)]) ?_ rfl ?_
        · simp only [set5] at z0 z1 z2 z3 z4
          simp [results, Tryd.results27, go_sem, z0, z1, z2, z3, z4]
        · refine ⟨r1, ?_⟩
          rw [RS.out]
          exact ⟨none, la, 0, lc, k + 1, by simp, by omega, rfl, r2⟩
      · have e1 : ((c.toNat : Int) == 93) = false := by rw [beq_eq_false_iff_ne]; intro e; exact h93 (UInt8.toNat_inj.1 (by show c.toNat = 93; omega))
        cases b with
        | true =>
          have VV : Hid (listS (valR D) (s.drop i) = (valR D (s.drop k)).bind fun p => its (valR D) (acc ++ [p.1]) p.2) := hidI (by rw [TT.out, HDR.out, hb0 rfl]; exact lst_val (valR D) NSP.out h93 _)
          clear h93 TT hb0
          go_wp2_with fail
          refine (IH.out _ s k (dep + 1) (by exact HD.out) hs (by omega)).mono ?_
          rintro e w3 ⟨hb3, hv3⟩
          have M3 := hidI (M.out.bel hb3)
          have BB := hidI hb3.size
          clear hb3 p0 p1 p2 p3 p4 q0 q1 q2 q3 q4 m0 m1 m2 m3 m4 n0 n1 n2 n3 n4
          cases hvr : valR D (s.drop k) with
          | none =>
            rw [hvr] at hv3
            obtain ⟨k9, n9, ss9, a7, a8, l7, c7, l8, c8, rfl⟩ := hv3
            have RN : Hid (listS (valR D) (s.drop i) = none) := hidI (by rw [VV.out, hvr]; rfl)
            clear hvr VV
            have M4 : Hid (MLI D w acc la lc (w3.alloc (.cells #[.int .i64 k9, .int .i64 n9, .string ⟨ss9.toArray⟩, .slice a7 l7 c7, .slice a8 l8 c8] 25))) := hidI (M3.out.bel (bel_alloc _ _))
            obtain ⟨p0, p1, p2, p3, p4, q0, q1, q2, q3, q4⟩ := M4.out.b.1.c
            obtain ⟨m0, m1, m2, m3, m4, n0, n1, n2, n3, n4⟩ := M4.out.b.2.1.c
            have R := hidI (M4.out.out (by omega))
            go_wp2_with fail
            obtain ⟨r1, r2, r3⟩ := R.out
            obtain ⟨z0, z1, z2, z3, z4, -⟩ := r3.c
            refine bodyPost_ret (v := .tuple #[.agg #[.int .i64 4, .int .i64 0, .string ⟨#[]⟩, .slice none 0 0, .slice la acc.length lc], .int .i64 (-1)]) ?_ rfl ?_
            · simp only [set5] at z0 z1 z2 z3 z4
              simp [results, Tryd.results27, go_sem, z0, z1, z2, z3, z4]
            · refine ⟨r1, ?_⟩
              rw [RN.out]
              exact ⟨4, 0, [], none, la, 0, 0, acc.length, lc, rfl⟩
          | some p =>
            obtain ⟨x, r2⟩ := p
            rw [hvr] at hv3
            obtain ⟨a7, a8, c7, c8, j, rfl, hj1, hj2, hx⟩ := hv3
            simp only at hj2 hx
            have XV := hidI hx
            have HJ := hidI hj2
            have NT : Hid (listS (valR D) (s.drop i) = its (valR D) (acc ++ [x]) r2) := hidI (by rw [VV.out, hvr]; rfl)
            have hjk : Hid (k < j) := hidI (by
              have h9 := valR_len D _ _ hvr
              rw [← hj2] at h9
              simp only [List.length_drop] at h9
              omega)
            clear hvr VV hj2 hx
            simp only
            have M4 : Hid (MLI D w acc la lc (w3.alloc (.cells #[.int .i64 x.kind, .int .i64 x.n, .string ⟨x.s.toArray⟩, .slice a7 x.keys.length c7, .slice a8 x.l.length c8] 25))) := hidI (M3.out.bel (bel_alloc _ _))
            have BX : Hid (BoxIs (w3.alloc (.cells #[.int .i64 x.kind, .int .i64 x.n, .string ⟨x.s.toArray⟩, .slice a7 x.keys.length c7, .slice a8 x.l.length c8] 25)) w3.heap.size (.int .i64 x.kind) (.int .i64 x.n) (.string ⟨x.s.toArray⟩) (.slice a7 x.keys.length c7) (.slice a8 x.l.length c8)) := hidI (heap_alloc_new w3 _)
            obtain ⟨f0, f1, f2, f3, f4, -⟩ := BX.out.c
            obtain ⟨p0, p1, p2, p3, p4, q0, q1, q2, q3, q4⟩ := M4.out.b.1.c
            obtain ⟨m0, m1, m2, m3, m4, n0, n1, n2, n3, n4⟩ := M4.out.b.2.1.c
            have nj : ¬ (j : Int) < 0 := by omega
            go_wp2_with fail
            refine (skip_at _ s j hs hj1).mono ?_
            rintro e w4 ⟨k4, rfl, hk4, hk5, hk6, rfl⟩
            obtain ⟨g9, c9, W9, hR, hbx, hM9⟩ := M4.out.push (XV.out.bel (bel_alloc _ _)) (B0 := wr.heap.size) (by have := M.out.b.2.1.lt; omega) (by intro g hg; obtain ⟨g0, cs, -, -, h3, -⟩ := M.out; exact (h3.lt g hg).2) (by omega) 23
            rw [alz] at hR
            have HRR := hidI hR
            have FIN : Hid (MLI D w (acc ++ [x]) (some ⟨g9, 0, none⟩) c9 (W9.setCell ⟨w.heap.size + 1, 4, none⟩ (.slice (some ⟨g9, 0, none⟩) (acc.length + 1) c9))) := hidI hM9
            have NX : Hid (listS (valR D) (s.drop i) = its (valR D) (acc ++ [x]) (s.drop k4)) := hidI (by rw [NT.out, ← HJ.out, hk6, its_drop (valR_len D)])
            have HK6 := hidI hk6
            obtain ⟨y0, y1, y2, y3, y4, o0, o1, o2, o3, o4⟩ := hbx.c
            clear hR hM9 hbx hk6
            go_wp2_with (at_builtin; go_must (refine Lib.wpList_append_run _ rfl _ _ _ _ rfl (.slice la acc.length lc) (.slice (some ⟨w3.heap.size + 1, 0, none⟩) 1 1) rfl rfl _ _ (by exact HRR.out) ?_); refine Hid.out ?_)
            refine hidI ?_
            go_wp2_with fail
            go_roundg (2 * (s.length - k4) + 0)
            case measure => rw [GK.out]; have := hjk.out; split <;> omega
            case rel => exact ⟨k4, false, acc ++ [x], some ⟨g9, 0, none⟩, c9, s.drop j, hk5, rfl, rfl, rfl, (fun h => by cases h), (by have := hjk.out; rw [List.length_append]; simp only [List.length_cons, List.length_nil]; omega), HK6.out, NX, FIN.out⟩
        | false =>
          clear hb0
          by_cases h44 : c = 44
          · have e2 : ((c.toNat : Int) != 44) = false := by rw [h44]; rfl
            have CM : Hid (listS (valR D) (s.drop i) = (valR D (s.drop (k + 1))).bind fun p => its (valR D) (acc ++ [p.1]) p.2) := hidI (by rw [TT.out, HDR.out, h44]; exact its_comma (valR_len D) _ _)
            clear h93 h44 TT
            go_wp2_with fail
            refine (skip_at _ s (k + 1) hs (by omega)).mono ?_
            rintro e w2 ⟨k2, rfl, hk7, hk8, hk9, hw2⟩
            have hw3 := hw2.symm
            subst hw3
            clear hw2
            have VV : Hid (listS (valR D) (s.drop i) = (valR D (s.drop k2)).bind fun p => its (valR D) (acc ++ [p.1]) p.2) := hidI (by rw [CM.out, hk9, valR_drop])
            clear hk9 CM
            go_wp2_with fail
            refine (IH.out _ s k2 (dep + 1) (by exact HD.out) hs (by omega)).mono ?_
            rintro e w3 ⟨hb3, hv3⟩
            have M3 := hidI (M.out.bel hb3)
            have BB := hidI hb3.size
            clear hb3 p0 p1 p2 p3 p4 q0 q1 q2 q3 q4 m0 m1 m2 m3 m4 n0 n1 n2 n3 n4
            cases hvr : valR D (s.drop k2) with
            | none =>
              rw [hvr] at hv3
              obtain ⟨k9, n9, ss9, a7, a8, l7, c7, l8, c8, rfl⟩ := hv3
              have RN : Hid (listS (valR D) (s.drop i) = none) := hidI (by rw [VV.out, hvr]; rfl)
              clear hvr VV
              have M4 : Hid (MLI D w acc la lc (w3.alloc (.cells #[.int .i64 k9, .int .i64 n9, .string ⟨ss9.toArray⟩, .slice a7 l7 c7, .slice a8 l8 c8] 25))) := hidI (M3.out.bel (bel_alloc _ _))
              obtain ⟨p0, p1, p2, p3, p4, q0, q1, q2, q3, q4⟩ := M4.out.b.1.c
              obtain ⟨m0, m1, m2, m3, m4, n0, n1, n2, n3, n4⟩ := M4.out.b.2.1.c
              have R := hidI (M4.out.out (by omega))
              go_wp2_with fail
              obtain ⟨r1, r2, r3⟩ := R.out
              obtain ⟨z0, z1, z2, z3, z4, -⟩ := r3.c
              refine bodyPost_ret (v := .tuple #[.agg #[.int .i64 4, .int .i64 0, .string ⟨#[]⟩, .slice none 0 0, .slice la acc.length lc], .int .i64 (-1)]) ?_ rfl ?_
              · simp only [set5] at z0 z1 z2 z3 z4
                simp [results, Tryd.results27, go_sem, z0, z1, z2, z3, z4]
              · refine ⟨r1, ?_⟩
                rw [RN.out]
                exact ⟨4, 0, [], none, la, 0, 0, acc.length, lc, rfl⟩
            | some p =>
              obtain ⟨x, r2⟩ := p
              rw [hvr] at hv3
              obtain ⟨a7, a8, c7, c8, j, rfl, hj1, hj2, hx⟩ := hv3
              simp only at hj2 hx
              have XV := hidI hx
              have HJ := hidI hj2
              have NT : Hid (listS (valR D) (s.drop i) = its (valR D) (acc ++ [x]) r2) := hidI (by rw [VV.out, hvr]; rfl)
              have hjk : Hid (k2 < j) := hidI (by
                have h9 := valR_len D _ _ hvr
                rw [← hj2] at h9
                simp only [List.length_drop] at h9
                omega)
              clear hvr VV hj2 hx
              simp only
              have M4 : Hid (MLI D w acc la lc (w3.alloc (.cells #[.int .i64 x.kind, .int .i64 x.n, .string ⟨x.s.toArray⟩, .slice a7 x.keys.length c7, .slice a8 x.l.length c8] 25))) := hidI (M3.out.bel (bel_alloc _ _))
              have BX : Hid (BoxIs (w3.alloc (.cells #[.int .i64 x.kind, .int .i64 x.n, .string ⟨x.s.toArray⟩, .slice a7 x.keys.length c7, .slice a8 x.l.length c8] 25)) w3.heap.size (.int .i64 x.kind) (.int .i64 x.n) (.string ⟨x.s.toArray⟩) (.slice a7 x.keys.length c7) (.slice a8 x.l.length c8)) := hidI (heap_alloc_new w3 _)
              obtain ⟨f0, f1, f2, f3, f4, -⟩ := BX.out.c
              obtain ⟨p0, p1, p2, p3, p4, q0, q1, q2, q3, q4⟩ := M4.out.b.1.c
              obtain ⟨m0, m1, m2, m3, m4, n0, n1, n2, n3, n4⟩ := M4.out.b.2.1.c
              have nj : ¬ (j : Int) < 0 := by omega
              go_wp2_with fail
              refine (skip_at _ s j hs hj1).mono ?_
              rintro e w4 ⟨k4, rfl, hk4, hk5, hk6, rfl⟩
              obtain ⟨g9, c9, W9, hR, hbx, hM9⟩ := M4.out.push (XV.out.bel (bel_alloc _ _)) (B0 := wr.heap.size) (by have := M.out.b.2.1.lt; omega) (by intro g hg; obtain ⟨g0, cs, -, -, h3, -⟩ := M.out; exact (h3.lt g hg).2) (by omega) 23
              rw [alz] at hR
              have HRR := hidI hR
              have FIN : Hid (MLI D w (acc ++ [x]) (some ⟨g9, 0, none⟩) c9 (W9.setCell ⟨w.heap.size + 1, 4, none⟩ (.slice (some ⟨g9, 0, none⟩) (acc.length + 1) c9))) := hidI hM9
              have NX : Hid (listS (valR D) (s.drop i) = its (valR D) (acc ++ [x]) (s.drop k4)) := hidI (by rw [NT.out, ← HJ.out, hk6, its_drop (valR_len D)])
              have HK6 := hidI hk6
              obtain ⟨y0, y1, y2, y3, y4, o0, o1, o2, o3, o4⟩ := hbx.c
              clear hR hM9 hbx hk6
              go_wp2_with (at_builtin; go_must (refine Lib.wpList_append_run _ rfl _ _ _ _ rfl (.slice la acc.length lc) (.slice (some ⟨w3.heap.size + 1, 0, none⟩) 1 1) rfl rfl _ _ (by exact HRR.out) ?_); refine Hid.out ?_)
              refine hidI ?_
              go_wp2_with fail
              go_roundg (2 * (s.length - k4) + 0)
              case measure => rw [GK.out]; have := hjk.out; split <;> omega
              case rel => exact ⟨k4, false, acc ++ [x], some ⟨g9, 0, none⟩, c9, s.drop j, hk5, rfl, rfl, rfl, (fun h => by cases h), (by have := hjk.out; rw [List.length_append]; simp only [List.length_cons, List.length_nil]; omega), HK6.out, NX, FIN.out⟩
          · have e2 : ((c.toNat : Int) != 44) = true := by rw [bne_iff_ne]; intro e; exact h44 (UInt8.toNat_inj.1 (by show c.toNat = 44; omega))
            have RN : Hid (listS (valR D) (s.drop i) = none) := hidI (by rw [TT.out, HDR.out]; exact its_bad (valR D) _ NSP.out h44 h93 _)
            clear h93 h44 TT
            have R := hidI (M.out.out (by omega))
            go_wp2_with fail
            obtain ⟨r1, r2, r3⟩ := R.out
            obtain ⟨z0, z1, z2, z3, z4, -⟩ := r3.c
            refine bodyPost_ret (v := .tuple #[.agg #[.int .i64 4, .int .i64 0, .string ⟨#[]⟩, .slice none 0 0, .slice la acc.length lc], .int .i64 (-1)]) ?_ rfl ?_
            · simp only [set5] at z0 z1 z2 z3 z4
              simp [results, Tryd.results27, go_sem, z0, z1, z2, z3, z4]
            · refine ⟨r1, ?_⟩
              rw [RN.out]
              exact ⟨4, 0, [], none, la, 0, 0, acc.length, lc, rfl⟩
    · have d1 : ¬ (k : Int) < (s.length : Int) := by omega
      have d2 : (s.length : Int) ≤ (k : Int) := by omega
      have hnil : s.drop k = [] := List.drop_eq_nil_of_le (by omega)
      have HN := hidI hnil
      clear hnil
      cases b with
      | true =>
        have VV : Hid (listS (valR D) (s.drop i) = (valR D (s.drop k)).bind fun p => its (valR D) (acc ++ [p.1]) p.2) := hidI (by rw [TT.out, HN.out, valR_nil]; exact lst_nil D)
        clear TT hb0
        go_wp2_with fail
        refine (IH.out _ s k (dep + 1) (by exact HD.out) hs (by omega)).mono ?_
        rintro e w3 ⟨hb3, hv3⟩
        have M3 := hidI (M.out.bel hb3)
        have BB := hidI hb3.size
        clear hb3 p0 p1 p2 p3 p4 q0 q1 q2 q3 q4 m0 m1 m2 m3 m4 n0 n1 n2 n3 n4
        cases hvr : valR D (s.drop k) with
        | none =>
          rw [hvr] at hv3
          obtain ⟨k9, n9, ss9, a7, a8, l7, c7, l8, c8, rfl⟩ := hv3
          have RN : Hid (listS (valR D) (s.drop i) = none) := hidI (by rw [VV.out, hvr]; rfl)
          clear hvr VV
          have M4 : Hid (MLI D w acc la lc (w3.alloc (.cells #[.int .i64 k9, .int .i64 n9, .string ⟨ss9.toArray⟩, .slice a7 l7 c7, .slice a8 l8 c8] 25))) := hidI (M3.out.bel (bel_alloc _ _))
          obtain ⟨p0, p1, p2, p3, p4, q0, q1, q2, q3, q4⟩ := M4.out.b.1.c
          obtain ⟨m0, m1, m2, m3, m4, n0, n1, n2, n3, n4⟩ := M4.out.b.2.1.c
          have R := hidI (M4.out.out (by omega))
          go_wp2_with fail
          obtain ⟨r1, r2, r3⟩ := R.out
          obtain ⟨z0, z1, z2, z3, z4, -⟩ := r3.c
          refine bodyPost_ret (v := .tuple #[.agg #[.int .i64 4, .int .i64 0, .string ⟨#[]⟩, .slice none 0 0, .slice la acc.length lc], .int .i64 (-1)]) ?_ rfl ?_
          · simp only [set5] at z0 z1 z2 z3 z4
            simp [results, Tryd.results27, go_sem, z0, z1, z2, z3, z4]
          · refine ⟨r1, ?_⟩
            rw [RN.out]
            exact ⟨4, 0, [], none, la, 0, 0, acc.length, lc, rfl⟩
        | some p =>
          obtain ⟨x, r2⟩ := p
          rw [hvr] at hv3
          obtain ⟨a7, a8, c7, c8, j, rfl, hj1, hj2, hx⟩ := hv3
          simp only at hj2 hx
          have XV := hidI hx
          have HJ := hidI hj2
          have NT : Hid (listS (valR D) (s.drop i) = its (valR D) (acc ++ [x]) r2) := hidI (by rw [VV.out, hvr]; rfl)
          have hjk : Hid (k < j) := hidI (by
            have h9 := valR_len D _ _ hvr
            rw [← hj2] at h9
            simp only [List.length_drop] at h9
            omega)
          clear hvr VV hj2 hx
          simp only
          have M4 : Hid (MLI D w acc la lc (w3.alloc (.cells #[.int .i64 x.kind, .int .i64 x.n, .string ⟨x.s.toArray⟩, .slice a7 x.keys.length c7, .slice a8 x.l.length c8] 25))) := hidI (M3.out.bel (bel_alloc _ _))
          have BX : Hid (BoxIs (w3.alloc (.cells #[.int .i64 x.kind, .int .i64 x.n, .string ⟨x.s.toArray⟩, .slice a7 x.keys.length c7, .slice a8 x.l.length c8] 25)) w3.heap.size (.int .i64 x.kind) (.int .i64 x.n) (.string ⟨x.s.toArray⟩) (.slice a7 x.keys.length c7) (.slice a8 x.l.length c8)) := hidI (heap_alloc_new w3 _)
          obtain ⟨f0, f1, f2, f3, f4, -⟩ := BX.out.c
          obtain ⟨p0, p1, p2, p3, p4, q0, q1, q2, q3, q4⟩ := M4.out.b.1.c
          obtain ⟨m0, m1, m2, m3, m4, n0, n1, n2, n3, n4⟩ := M4.out.b.2.1.c
          have nj : ¬ (j : Int) < 0 := by omega
          go_wp2_with fail
          refine (skip_at _ s j hs hj1).mono ?_
          rintro e w4 ⟨k4, rfl, hk4, hk5, hk6, rfl⟩
          obtain ⟨g9, c9, W9, hR, hbx, hM9⟩ := M4.out.push (XV.out.bel (bel_alloc _ _)) (B0 := wr.heap.size) (by have := M.out.b.2.1.lt; omega) (by intro g hg; obtain ⟨g0, cs, -, -, h3, -⟩ := M.out; exact (h3.lt g hg).2) (by omega) 23
          rw [alz] at hR
          have HRR := hidI hR
          have FIN : Hid (MLI D w (acc ++ [x]) (some ⟨g9, 0, none⟩) c9 (W9.setCell ⟨w.heap.size + 1, 4, none⟩ (.slice (some ⟨g9, 0, none⟩) (acc.length + 1) c9))) := hidI hM9
          have NX : Hid (listS (valR D) (s.drop i) = its (valR D) (acc ++ [x]) (s.drop k4)) := hidI (by rw [NT.out, ← HJ.out, hk6, its_drop (valR_len D)])
          have HK6 := hidI hk6
          obtain ⟨y0, y1, y2, y3, y4, o0, o1, o2, o3, o4⟩ := hbx.c
          clear hR hM9 hbx hk6
          go_wp2_with (at_builtin; go_must (refine Lib.wpList_append_run _ rfl _ _ _ _ rfl (.slice la acc.length lc) (.slice (some ⟨w3.heap.size + 1, 0, none⟩) 1 1) rfl rfl _ _ (by exact HRR.out) ?_); refine Hid.out ?_)
          refine hidI ?_
          go_wp2_with fail
          go_roundg (2 * (s.length - k4) + 0)
          case measure => rw [GK.out]; have := hjk.out; split <;> omega
          case rel => exact ⟨k4, false, acc ++ [x], some ⟨g9, 0, none⟩, c9, s.drop j, hk5, rfl, rfl, rfl, (fun h => by cases h), (by have := hjk.out; rw [List.length_append]; simp only [List.length_cons, List.length_nil]; omega), HK6.out, NX, FIN.out⟩
      | false =>
        have RN : Hid (listS (valR D) (s.drop i) = none) := hidI (by rw [TT.out, HN.out]; exact its_nil (valR D) _)
        clear hb0 TT
        have R := hidI (M.out.out (by omega))
        go_wp2_with fail
        obtain ⟨r1, r2, r3⟩ := R.out
        obtain ⟨z0, z1, z2, z3, z4, -⟩ := r3.c
        refine bodyPost_ret (v := .tuple #[.agg #[.int .i64 4, .int .i64 0, .string ⟨#[]⟩, .slice none 0 0, .slice la acc.length lc], .int .i64 (-1)]) ?_ rfl ?_
        · simp only [set5] at z0 z1 z2 z3 z4
          simp [results, Tryd.results27, go_sem, z0, z1, z2, z3, z4]
        · refine ⟨r1, ?_⟩
          rw [RN.out]
          exact ⟨4, 0, [], none, la, 0, 0, acc.length, lc, rfl⟩
end Go.Proofs.YtkboplcffailoaaDoor

/- What MemberOf of package stairwellref does. -/
set_option linter.unusedSimpArgs false
set_option linter.unusedVariables false
namespace Go.Proofs.YtkboplcffailoaaDoor
open Go.RowKit

theorem idx_drop {key : List UInt8} {xs : List (List UInt8)} {k : Nat} (h : k < xs.length) (hne : xs[k] ≠ key) : (idxL key (xs.drop k)).map (· + k) = (idxL key (xs.drop (k + 1))).map (· + (k + 1)) := by
  rw [List.drop_eq_getElem_cons h, idxL, if_neg hne]
  cases idxL key (xs.drop (k + 1)) with
  | none => rfl
  | some i => simp; omega

set_option maxRecDepth 100000 in
set_option maxHeartbeats 40000000 in
theorem rmember_is (w : World) (ok : Nat → Prop) (t : V) (v : Value) (key : List UInt8) (h : In w ok t v) :
    Calls Tryd.prog 43 #[v, str key] w fun e w' => ∃ x, e = .returned (.tuple #[x, .bool (memV t key).isSome]) ∧ Below w.heap.size w w' ∧ In w' ok ((memV t key).getD zeroT) x := by
  have H := hidI h
  obtain ⟨l1, l2, l3⟩ := h.lens
  obtain ⟨a1, a2, c1, c2, rfl⟩ := h.form
  clear h
  unfold str
  have B2 : Hid (∀ o1 o2, Below w.heap.size w ((w.alloc o1).alloc o2)) := fun o1 o2 => bel_trans (bel_alloc _ _) (bel_alloc _ _)
  by_cases hk : t.kind = 5
  · have e0 : (t.kind != 5) = false := by rw [hk]; rfl
    by_cases hl : t.keys.length = t.l.length
    · have e1 : ((t.keys.length : Int) != (t.l.length : Int)) = false := by simp [hl]
      have HM : Hid (memV t key = (idxL key t.keys).bind fun i => t.l[i]?) := hidI (by simp [memV, findV, pairedV, hk, hl])
      have HL := hidI hl
      clear hk hl
      go_enter Tryd.func43, Tryd.ntmps43
      go_wp2_with fail
      go_loop [23] (fun i => ∃ k : Nat, k ≤ t.keys.length ∧ i = .int .i64 k ∧ Hid (idxL key t.keys = (idxL key (t.keys.drop k)).map (· + k))) (fun i => t.keys.length - (intOf i).toNat)
      case atStart => exact ⟨0, Nat.zero_le _, rfl, hidI (by simp)⟩
      case round =>
        obtain ⟨k, hk, rfl, HI⟩ := hrel
        by_cases hlt : k < t.keys.length
        · have hlt' : k < t.l.length := by have := HL.out; omega
          obtain ⟨kb, ko, rfl, j1, j2, jk, jl⟩ := H.out.key hlt
          obtain ⟨xb, xo, b5, d5, b6, d6, rfl, j3, j4, g0, g1, g2, g3, g4, g5⟩ := H.out.item hlt'
          have w1 : (0 : Int) ≤ (k : Int) := by omega
          have w2 : (k : Int) < (t.keys.length : Int) := by omega
          have w3 : (k : Int) < (t.l.length : Int) := by omega
          have hbb := B2.out (.cells #[.int .i64 t.kind, .int .i64 t.n, .string ⟨t.s.toArray⟩, .slice (some ⟨kb, ko, none⟩) t.keys.length c1, .slice (some ⟨xb, xo, none⟩) t.l.length c2] 25) (.cells #[.int .i64 0, .int .i64 0, .string ⟨#[]⟩, .slice none 0 0, .slice none 0 0] 25)
          replace jk := cell_bel hbb jk
          replace g0 := cell_bel hbb g0
          replace g1 := cell_bel hbb g1
          replace g2 := cell_bel hbb g2
          replace g3 := cell_bel hbb g3
          replace g4 := cell_bel hbb g4
          have G5 := hidI g5
          clear g5 hbb
          by_cases he : t.keys[k] = key
          · have e3 : (t.keys[k] == key) = true := by rw [beq_iff_eq]; exact he
            have HX : Hid (memV t key = some t.l[k]) := hidI (by
              rw [HM.out, HI.out, List.drop_eq_getElem_cons hlt, idxL, if_pos he]
              simp [List.getElem?_eq_getElem hlt'])
            clear he
            have BX := hidI (G5.out.bel (B2.out (.cells #[.int .i64 t.kind, .int .i64 t.n, .string ⟨t.s.toArray⟩, .slice (some ⟨kb, ko, none⟩) t.keys.length c1, .slice (some ⟨xb, xo, none⟩) t.l.length c2] 25) (.cells #[.int .i64 t.l[k].kind, .int .i64 t.l[k].n, .string ⟨t.l[k].s.toArray⟩, .slice b5 t.l[k].keys.length d5, .slice b6 t.l[k].l.length d6] 25)))
            go_wp2_with fail
            refine bodyPost_ret (v := .tuple #[.agg #[.int .i64 t.l[k].kind, .int .i64 t.l[k].n, .string ⟨t.l[k].s.toArray⟩, .slice b5 t.l[k].keys.length d5, .slice b6 t.l[k].l.length d6], .bool true]) ?_ rfl ?_
            · simp [results, Tryd.results43, go_sem]
            · exact ⟨_, by rw [HX.out]; rfl, B2.out _ _, by rw [HX.out]; exact BX.out⟩
          · have e3 : (t.keys[k] == key) = false := by rw [beq_eq_false_iff_ne]; exact he
            have HN : Hid (idxL key t.keys = (idxL key (t.keys.drop (k + 1))).map (· + (k + 1))) := hidI (by rw [HI.out, idx_drop hlt he])
            clear he
            go_wp2_with fail
            go_round
            case rel => exact ⟨k + 1, by omega, by go_num, HN⟩
            case measure => simp [intOf]; omega
        · have l1 : t.keys.drop k = [] := List.drop_eq_nil_of_le (by omega)
          have d1 : ¬ (k : Int) < (t.keys.length : Int) := by omega
          have HM2 : Hid (memV t key = none) := hidI (by rw [HM.out, HI.out, l1]; rfl)
          clear HM l1
          have HM := HM2
          go_wp2_with fail
          refine bodyPost_ret (v := .tuple #[.agg #[.int .i64 0, .int .i64 0, .string ⟨#[]⟩, .slice none 0 0, .slice none 0 0], .bool false]) ?_ rfl ?_
          · simp [results, Tryd.results43, go_sem]
          · exact ⟨_, by rw [HM.out]; rfl, B2.out _ _, by rw [HM.out]; exact in_zero _ _⟩
    · have e1 : ((t.keys.length : Int) != (t.l.length : Int)) = true := by rw [bne_iff_ne]; omega
      have HM : Hid (memV t key = none) := hidI (by simp [memV, findV, pairedV, hl])
      clear hk hl
      go_enter Tryd.func43, Tryd.ntmps43
      go_wp2_with fail
      refine bodyPost_ret (v := .tuple #[.agg #[.int .i64 0, .int .i64 0, .string ⟨#[]⟩, .slice none 0 0, .slice none 0 0], .bool false]) ?_ rfl ?_
      · simp [results, Tryd.results43, go_sem]
      · exact ⟨_, by rw [HM.out]; rfl, B2.out _ _, by rw [HM.out]; exact in_zero _ _⟩
  · have e0 : (t.kind != 5) = true := by rw [bne_iff_ne]; exact hk
    have HM : Hid (memV t key = none) := hidI (by simp [memV, findV, pairedV, hk])
    clear hk
    go_enter Tryd.func43, Tryd.ntmps43
    go_wp2_with fail
    refine bodyPost_ret (v := .tuple #[.agg #[.int .i64 0, .int .i64 0, .string ⟨#[]⟩, .slice none 0 0, .slice none 0 0], .bool false]) ?_ rfl ?_
    · simp [results, Tryd.results43, go_sem]
    · exact ⟨_, by rw [HM.out]; rfl, B2.out _ _, by rw [HM.out]; exact in_zero _ _⟩
end Go.Proofs.YtkboplcffailoaaDoor

set_option linter.unusedSimpArgs false
set_option linter.unusedVariables false
namespace Go.Proofs.YtkboplcffailoaaDoor
open Go.RowKit

theorem membsR_fuel {g : Rd} (hg : Less g) (n : Nat) : ∀ (m : Nat) (v : V) (l : List UInt8), l.length < n → l.length < m → membsR g n v l = membsR g m v l := by
  induction n with
  | zero => intro m acc l h; omega
  | succ n ih =>
    intro m acc l h1 h2
    cases m with
    | zero => omega
    | succ m =>
      simp only [membsR]
      cases hm : markS 44 l with
      | none => rfl
      | some r =>
        have := markS_len hm
        cases he : memR g acc r with
        | none => simp only [he, Option.bind_none]
        | some p =>
          have := memR_len hg _ _ _ he
          simp only [he, Option.bind_some]
          exact ih m _ _ (by omega) (by omega)
def mbs (g : Rd) (v : V) (l : List UInt8) : Option (V × List UInt8) := membsR g (l.length + 1) v l
def obs (g : Rd) (l : List UInt8) : Option (V × List UInt8) := match markS 125 l with | some r => some (objT, r) | none => (memR g objT l).bind fun p => mbs g p.1 p.2
theorem mbs_end (g : Rd) (v : V) (r : List UInt8) : mbs g v (125 :: r) = some (v, r) := by
  unfold mbs
  rw [membsR, mark_miss (by decide) (by decide), markS_drop, mark_hit 125 (by decide)]
  rfl
theorem mbs_comma {g : Rd} (hg : Less g) (v : V) (r : List UInt8) : mbs g v (44 :: r) = (memR g v r).bind fun p => mbs g p.1 p.2 := by
  unfold mbs
  rw [membsR, mark_hit 44 (by decide)]
  simp only
  cases h : memR g v r with
  | none => rfl
  | some p =>
    have := memR_len hg _ _ _ h
    exact membsR_fuel hg _ _ _ _ (by simp; omega) (by omega)
theorem mbs_bad (g : Rd) (v : V) {c : UInt8} (h : isSp c = false) (h1 : c ≠ 44) (h2 : c ≠ 125) (r : List UInt8) : mbs g v (c :: r) = none := by
  unfold mbs
  rw [membsR, mark_miss h h1, markS_drop, mark_miss h h2]
  rfl
theorem mbs_nil (g : Rd) (v : V) : mbs g v [] = none := rfl
theorem mbs_drop {g : Rd} (hg : Less g) (v : V) (l : List UInt8) : mbs g v (l.dropWhile isSp) = mbs g v l := by
  unfold mbs
  have hl := dropSp_len l
  rw [membsR_fuel hg _ (l.length + 1) v (l.dropWhile isSp) (by omega) (by omega)]
  rw [membsR, membsR, markS_drop, drop_idem]
theorem memR_drop (g : Rd) (v : V) (l : List UInt8) : memR g v (l.dropWhile isSp) = memR g v l := by
  unfold memR quotR
  rw [quotS_drop]
theorem obj_start (g : Rd) (r : List UInt8) : objR g (123 :: r) = obs g (r.dropWhile isSp) := by
  unfold objR obs
  rw [mark_hit 123 (by decide), markS_drop]
  simp only [Option.bind_some]
  cases markS 125 r with
  | some q => rfl
  | none => rfl
theorem obs_end (g : Rd) (r : List UInt8) : obs g (125 :: r) = some (objT, r) := by
  unfold obs
  rw [mark_hit 125 (by decide)]
theorem obs_val (g : Rd) {c : UInt8} (h : isSp c = false) (h2 : c ≠ 125) (r : List UInt8) : obs g (c :: r) = (memR g objT (c :: r)).bind fun p => mbs g p.1 p.2 := by
  unfold obs
  rw [mark_miss h h2]
theorem memR_nil (g : Rd) (v : V) : memR g v [] = none := rfl
theorem obs_nil (g : Rd) : obs g [] = none := rfl
theorem memR_no (g : Rd) (v : V) {c : UInt8} (h : isSp c = false) (h2 : c ≠ 34) (r : List UInt8) : memR g v (c :: r) = none := by
  unfold memR quotR quotS
  rw [mark_miss h h2]
  rfl
theorem memR_key (g : Rd) (v : V) (r : List UInt8) : memR g v (34 :: r) = (txtR r).bind fun q => (markS 58 q.2).bind fun l => (g l).bind fun p => if (memV v q.1).isSome then none else some (withV v q.1 p.1, p.2) := by
  unfold memR
  rw [quotR_txt]
/- On the way: the object so far, in its box. -/
def MOI (D : Nat) (w : World) (v : V) (va vb : Option Addr) (ca cb : Nat) (wr : World) : Prop :=
  BoxIs wr w.heap.size (.int .i64 0) (.int .i64 0) (.string ⟨#[]⟩) (.slice none 0 0) (.slice none 0 0) ∧ BoxIs wr (w.heap.size + 1) (.int .i64 v.kind) (.int .i64 v.n) (.string ⟨v.s.toArray⟩) (.slice va v.keys.length ca) (.slice vb v.l.length cb) ∧ VIs wr (fun k => w.heap.size + 2 ≤ k) (D + 1) v (.agg #[.int .i64 v.kind, .int .i64 v.n, .string ⟨v.s.toArray⟩, .slice va v.keys.length ca, .slice vb v.l.length cb]) ∧ Below w.heap.size w wr
theorem MOI.bel {D : Nat} {w wr wr' : World} {v : V} {va vb : Option Addr} {ca cb : Nat} (h : MOI D w v va vb ca cb wr) (hb : Below wr.heap.size wr wr') : MOI D w v va vb ca cb wr' :=
  ⟨box_bel hb h.1, box_bel hb h.2.1, h.2.2.1.bel hb, bel_trans h.2.2.2 hb⟩
theorem MOI.put {D C : Nat} {w wr : World} {v z : V} {va vb b7 b8 : Option Addr} {ca cb d7 d8 : Nat} (h : MOI D w v va vb ca cb wr) (hz : VIs wr (okN (fun k => w.heap.size + 2 ≤ k) C) (D + 1) z (.agg #[.int .i64 z.kind, .int .i64 z.n, .string ⟨z.s.toArray⟩, .slice b7 z.keys.length d7, .slice b8 z.l.length d8])) (hC : w.heap.size + 2 ≤ C) : MOI D w z b7 b8 d7 d8 (set5 wr (w.heap.size + 1) (.int .i64 z.kind) (.int .i64 z.n) (.string ⟨z.s.toArray⟩) (.slice b7 z.keys.length d7) (.slice b8 z.l.length d8)) := by
  have g1 := set5_gb wr (w.heap.size + 1) (.int .i64 z.kind) (.int .i64 z.n) (.string ⟨z.s.toArray⟩) (.slice b7 z.keys.length d7) (.slice b8 z.l.length d8)
  have hk : ∀ k, okN (fun k => w.heap.size + 2 ≤ k) C k → w.heap.size + 2 ≤ k := fun k hk => by rcases hk with hk | hk <;> omega
  exact ⟨h.1.grown g1 (by simp), h.2.1.set _ _ _ _ _, (hz.grown g1 (fun k hk' e => by have := hk k hk'; simp at e; omega)).weak hk, bel_set5 h.2.2.2 (by omega) _ _ _ _ _⟩
theorem MOI.out {D : Nat} {w wr : World} {v : V} {va vb : Option Addr} {ca cb : Nat} (h : MOI D w v va vb ca cb wr) :
    Below w.heap.size w (set5 wr w.heap.size (.int .i64 v.kind) (.int .i64 v.n) (.string ⟨v.s.toArray⟩) (.slice va v.keys.length ca) (.slice vb v.l.length cb)) ∧ VIs (set5 wr w.heap.size (.int .i64 v.kind) (.int .i64 v.n) (.string ⟨v.s.toArray⟩) (.slice va v.keys.length ca) (.slice vb v.l.length cb)) (fun k => w.heap.size ≤ k) (D + 1) v (.agg #[.int .i64 v.kind, .int .i64 v.n, .string ⟨v.s.toArray⟩, .slice va v.keys.length ca, .slice vb v.l.length cb]) ∧ BoxIs (set5 wr w.heap.size (.int .i64 v.kind) (.int .i64 v.n) (.string ⟨v.s.toArray⟩) (.slice va v.keys.length ca) (.slice vb v.l.length cb)) w.heap.size (.int .i64 v.kind) (.int .i64 v.n) (.string ⟨v.s.toArray⟩) (.slice va v.keys.length ca) (.slice vb v.l.length cb) := by
  have g1 := set5_gb wr w.heap.size (.int .i64 v.kind) (.int .i64 v.n) (.string ⟨v.s.toArray⟩) (.slice va v.keys.length ca) (.slice vb v.l.length cb)
  exact ⟨bel_set5 h.2.2.2 (Nat.le_refl _) _ _ _ _ _, (h.2.2.1.grown g1 (fun k hk e => by simp at e; omega)).weak (fun k hk => by omega), h.1.set _ _ _ _ _⟩

open Classical in
set_option maxRecDepth 100000 in
set_option maxHeartbeats 40000000 in
theorem many_obj (D : Nat) (ih : RVal D) (w : World) (s : List UInt8) (i : Nat) (dep : Int) (hdep : dep + 1 = 13 - (D : Int)) (hD : D ≤ 12) (hs : s.length ≤ 2000) (hi : i < s.length) (h123 : s[i] = 123) :
    Calls Tryd.prog 27 #[str s, .int .i64 i, .int .i64 dep] w fun e w' => Below w.heap.size w w' ∧ VaA s (objR (valR D) (s.drop i)) w.heap.size (D + 1) e w' := by
  have IH := hidI ih
  have hdep1 : -1 ≤ dep := by omega
  have hdep2 : dep ≤ 13 := by omega
  have HD := hidI hdep
  have hszi : i < (ByteArray.mk s.toArray).size := by rw [ba_len]; exact hi
  have hgeti : (ByteArray.mk s.toArray)[i] = 123 := h123
  have LS : Hid (objR (valR D) (s.drop i) = obs (valR D) ((s.drop (i + 1)).dropWhile isSp)) := hidI (by rw [List.drop_eq_getElem_cons hi, h123]; exact obj_start _ _)
  have v0 : (0 : Int) ≤ (i : Int) := by omega
  have v00 : (i : Int) < (s.length : Int) := by omega
  have bx0 : Hid (BoxIs ((w.alloc (.cells #[.int .i64 0, .int .i64 0, .string ⟨#[]⟩, .slice none 0 0, .slice none 0 0] 25)).alloc (.cells #[.int .i64 4, .int .i64 0, .string ⟨#[]⟩, .slice none 0 0, .slice none 0 0] 25)) (w.heap.size + 1) (.int .i64 4) (.int .i64 0) (.string ⟨#[]⟩) (.slice none 0 0) (.slice none 0 0)) := hidI (h2b w _ _)
  obtain ⟨j0, j1, j2, j3, j4, i0, i1, i2, i3, i4⟩ := bx0.out.c
  clear ih h123 hdep
  unfold str
  go_enter Tryd.func27, Tryd.ntmps27
  go_upto_region 5 with fail
  clear j0 j1 j2 j3 j4 i0 i1 i2 i3 i4
  have I0 : Hid (MOI D w objT none none 0 0 ((w.alloc (.cells #[.int .i64 0, .int .i64 0, .string ⟨#[]⟩, .slice none 0 0, .slice none 0 0] 25)).alloc (.cells #[.int .i64 5, .int .i64 0, .string ⟨#[]⟩, .slice none 0 0, .slice none 0 0] 25))) := hidI (by
    refine ⟨h2a w _ _, h2b w _ _, ?_, bel_trans (bel_alloc _ _) (bel_alloc _ _)⟩
    exact ⟨_, _, rfl, by unfold I64; simp [objT], by unfold I64; simp [objT], by simp [maxLen, objT], ⟨by simp [maxLen, objT], .inl ⟨rfl, none, rfl⟩⟩, ⟨by simp [maxLen, objT], .inl ⟨rfl, none, rfl⟩⟩⟩)
  clear bx0
  go_wp2_with fail
  refine (skip_at _ s (i + 1) hs (by omega)).mono ?_
  rintro e w1 ⟨k0, rfl, hk1, hk2, hk3, hw1⟩
  have SK : Hid (s.drop k0 = (s.drop (i + 1)).dropWhile isSp) := hidI hk3
  subst hw1
  clear hk3
  go_wp2_with fail
  go_loopg [1, 10] (2 * (s.length - k0) + 1) (fun gk iv fv wr => ∃ (k : Nat) (b : Bool) (v : V) (va vb : Option Addr) (ca cb : Nat) (l0 : List UInt8), k ≤ s.length ∧ gk = 2 * (s.length - k) + (if b then 1 else 0) ∧ iv = .int .i64 k ∧ fv = .bool b ∧ (b = true → v = objT) ∧ v.l.length ≤ k ∧ Ob v ∧ s.drop k = l0.dropWhile isSp ∧ Hid (objR (valR D) (s.drop i) = if b then obs (valR D) (s.drop k) else mbs (valR D) v (s.drop k)) ∧ MOI D w v va vb ca cb wr)
  case atStart => exact ⟨k0, true, objT, none, none, 0, 0, s.drop (i + 1), hk2, rfl, rfl, rfl, fun _ => rfl, by simp [objT], ob_objT, SK.out, hidI (by rw [LS.out, SK.out]; rfl), I0.out⟩
  case round =>
    obtain ⟨k, b, v, va, vb, ca, cb, l0, hk, hgk, rfl, rfl, hb0, hal, hob, hns, TT, hM⟩ := hrel
    have GK := hidI hgk
    have NS := hidI hns
    have M := hidI hM
    have OB := hidI hob
    have VL : Hid (v.l.length ≤ 2000) := hidI (by omega)
    have HAL := hidI hal
    have e5 : (v.kind == 5) = true := by rw [hob.1]; rfl
    have e4 : (v.kind == 4) = false := by rw [hob.1]; rfl
    obtain ⟨p0, p1, p2, p3, p4, q0, q1, q2, q3, q4⟩ := hM.1.c
    obtain ⟨m0, m1, m2, m3, m4, n0, n1, n2, n3, n4⟩ := hM.2.1.c
    clear hgk hns hM hob hal
    by_cases hlt : k < s.length
    · have hszm : k < (ByteArray.mk s.toArray).size := by rw [ba_len]; exact hlt
      have hgetm : (ByteArray.mk s.toArray)[k] = s[k] := rfl
      have v1 : (0 : Int) ≤ (k : Int) := by omega
      have v2 : (k : Int) < (s.length : Int) := by omega
      have v3 : ¬ (s.length : Int) ≤ (k : Int) := by omega
      have hdr := List.drop_eq_getElem_cons hlt
      obtain ⟨c, hc⟩ : ∃ c, s[k] = c := ⟨_, rfl⟩
      rw [hc] at hgetm hdr
      have HDR := hidI hdr
      have NSP : Hid (isSp c = false) := hidI (head_ns NS.out hdr)
      have hc256 : (c.toNat : Int) < 256 := by have := c.toNat_lt; omega
      by_cases h125 : c = 125
      · have e1 : ((c.toNat : Int) == 125) = true := by rw [h125]; rfl
        have RS : Hid (objR (valR D) (s.drop i) = some (v, s.drop (k + 1))) := hidI (by
          rw [TT.out, HDR.out, h125]
          cases b with
          | true => rw [hb0 rfl]; exact obs_end (valR D) _
          | false => exact mbs_end (valR D) _ _)
        clear h125 TT hc hdr
        have R := hidI M.out.out
        go_wp2_with fail
        obtain ⟨r1, r2, r3⟩ := R.out
        obtain ⟨z0, z1, z2, z3, z4, -⟩ := r3.c
        refine bodyPost_ret (v := .tuple #[.agg #[.int .i64 v.kind, .int .i64 v.n, .string ⟨v.s.toArray⟩, .slice va v.keys.length ca, .slice vb v.l.length cb], .int .i64 ((k : Int) + 1)]) ?_ rfl ?_
        · simp only [set5] at z0 z1 z2 z3 z4
          simp [results, Tryd.results27, go_sem, z0, z1, z2, z3, z4]
        · refine ⟨r1, ?_⟩
          rw [RS.out]
          exact ⟨va, vb, ca, cb, k + 1, by simp, by omega, rfl, r2⟩
      · have e1 : ((c.toNat : Int) == 125) = false := by rw [beq_eq_false_iff_ne]; intro e; exact h125 (UInt8.toNat_inj.1 (by show c.toNat = 125; omega))
        cases b with
        | true =>
          have MM : Hid (objR (valR D) (s.drop i) = (memR (valR D) v (s.drop k)).bind fun p => mbs (valR D) p.1 p.2) := hidI (by rw [TT.out, HDR.out, hb0 rfl]; exact obs_val (valR D) NSP.out h125 _)
          have NSK := hidI NS.out
          clear h125 TT hb0 hc hdr
          have hl1 : k < s.length := hlt
          by_cases h34 : c = 34
          · have s1 : ((c.toNat : Int) != 34) = false := by rw [h34]; rfl
            have KD : Hid (s.drop k = 34 :: s.drop (k + 1)) := hidI (by rw [HDR.out, h34])
            clear h34
            go_wp2_with fail
            refine (textAt_at _ s k hs (by omega)).mono ?_
            rintro e wt ⟨hbt, hta⟩
            have MT := hidI (M.out.bel hbt)
            clear p0 p1 p2 p3 p4 q0 q1 q2 q3 q4 m0 m1 m2 m3 m4 n0 n1 n2 n3 n4
            obtain ⟨p0, p1, p2, p3, p4, q0, q1, q2, q3, q4⟩ := MT.out.1.c
            obtain ⟨m0, m1, m2, m3, m4, n0, n1, n2, n3, n4⟩ := MT.out.2.1.c
            cases htx : txtR (s.drop (k + 1)) with
            | none =>
              rw [htx] at hta
              obtain rfl := hta
              unfold str
              have RN : Hid (objR (valR D) (s.drop i) = none) := hidI (by rw [MM.out, KD.out, memR_key, htx]; rfl)
              clear htx hbt
              have R := hidI MT.out.out
              go_wp2_with fail
              obtain ⟨r1, r2, r3⟩ := R.out
              obtain ⟨z0, z1, z2, z3, z4, -⟩ := r3.c
              refine bodyPost_ret (v := .tuple #[.agg #[.int .i64 v.kind, .int .i64 v.n, .string ⟨v.s.toArray⟩, .slice va v.keys.length ca, .slice vb v.l.length cb], .int .i64 (-1)]) ?_ rfl ?_
              · simp only [set5] at z0 z1 z2 z3 z4
                simp [results, Tryd.results27, go_sem, z0, z1, z2, z3, z4]
              · refine ⟨r1, ?_⟩
                rw [RN.out]
                exact ⟨v.kind, v.n, v.s, va, vb, v.keys.length, ca, v.l.length, cb, rfl⟩
            | some q =>
              obtain ⟨key, r1⟩ := q
              rw [htx] at hta
              obtain ⟨j, rfl, hj1, hjr⟩ := hta
              simp only at hjr
              unfold str
              have KK : Hid (objR (valR D) (s.drop i) = ((markS 58 (s.drop j)).bind fun l => (valR D l).bind fun p => if (memV v key).isSome then none else some (withV v key p.1, p.2)).bind fun p => mbs (valR D) p.1 p.2) := hidI (by rw [MM.out, KD.out, memR_key, htx, hjr]; rfl)
              have hkl : key.length ≤ 60 := by
                unfold txtR at htx
                obtain ⟨q, h1, h2⟩ := Option.bind_eq_some_iff.1 htx
                split at h2
                · rename_i h3
                  simp only [Option.some.injEq] at h2
                  rw [h2] at h3; exact h3
                · cases h2
              have hjkk : k < j := by
                have h9 : (s.drop j).length < (s.drop (k + 1)).length + 1 := by
                  rw [hjr]
                  unfold txtR bod at htx
                  obtain ⟨q, h1, h2⟩ := Option.bind_eq_some_iff.1 htx
                  have h3 := bodyS_len _ _ _ _ h1
                  split at h2
                  · simp only [Option.some.injEq] at h2
                    rw [h2] at h3
                    simp only at h3
                    omega
                  · cases h2
                simp only [List.length_drop] at h9
                omega
              have nj0 : ¬ (j : Int) < 0 := by omega
              simp only
              clear htx hbt hjr
              go_wp2_with fail
              refine (skip_at _ s j hs hj1).mono ?_
              rintro e w2 ⟨j2, rfl, hj3, hj4, hj5, hw2⟩
              have hw3 := hw2.symm
              subst hw3
              have MK := hidI MT.out
              clear hw2
              by_cases hl2 : j2 < s.length
              · have hszc : j2 < (ByteArray.mk s.toArray).size := by rw [ba_len]; exact hl2
                have hgetc : (ByteArray.mk s.toArray)[j2] = s[j2] := rfl
                have y1 : (0 : Int) ≤ (j2 : Int) := by omega
                have y2 : (j2 : Int) < (s.length : Int) := by omega
                have y3 : ¬ (s.length : Int) ≤ (j2 : Int) := by omega
                have hdc := List.drop_eq_getElem_cons hl2
                obtain ⟨cc, hcc⟩ : ∃ cc, s[j2] = cc := ⟨_, rfl⟩
                rw [hcc] at hgetc hdc
                have hcc256 : (cc.toNat : Int) < 256 := by have := cc.toNat_lt; omega
                have NC : Hid (isSp cc = false) := hidI (head_ns hj5 hdc)
                clear hcc
                by_cases h58 : cc = 58
                · have t1 : ((cc.toNat : Int) != 58) = false := by rw [h58]; rfl
                  have VV : Hid (objR (valR D) (s.drop i) = ((valR D (s.drop (j2 + 1))).bind fun p => if (memV v key).isSome then none else some (withV v key p.1, p.2)).bind fun p => mbs (valR D) p.1 p.2) := hidI (by rw [KK.out, ← markS_drop, ← hj5, hdc, h58, mark_hit 58 (by decide)]; rfl)
                  clear h58 hdc hj5 KK
                  go_wp2_with fail
                  refine (IH.out _ s (j2 + 1) (dep + 1) (by exact HD.out) hs (by omega)).mono ?_
                  rintro e w3 ⟨hb3, hv3⟩
                  have M3 := hidI (MK.out.bel hb3)
                  have BB := hidI hb3.size
                  clear hb3 p0 p1 p2 p3 p4 q0 q1 q2 q3 q4 m0 m1 m2 m3 m4 n0 n1 n2 n3 n4
                  cases hvr : valR D (s.drop (j2 + 1)) with
                  | none =>
                    rw [hvr] at hv3
                    obtain ⟨k9, n9, ss9, a7, a8, l7, c7, l8, c8, rfl⟩ := hv3
                    have RN : Hid (objR (valR D) (s.drop i) = none) := hidI (by rw [VV.out, hvr]; rfl)
                    clear hvr VV
                    have M4 : Hid (MOI D w v va vb ca cb (w3.alloc (.cells #[.int .i64 k9, .int .i64 n9, .string ⟨ss9.toArray⟩, .slice a7 l7 c7, .slice a8 l8 c8] 25))) := hidI (M3.out.bel (bel_alloc _ _))
                    obtain ⟨p0, p1, p2, p3, p4, q0, q1, q2, q3, q4⟩ := M4.out.1.c
                    obtain ⟨m0, m1, m2, m3, m4, n0, n1, n2, n3, n4⟩ := M4.out.2.1.c
                    have R := hidI M4.out.out
                    go_wp2_with fail
                    obtain ⟨r1, r2, r3⟩ := R.out
                    obtain ⟨z0, z1, z2, z3, z4, -⟩ := r3.c
                    refine bodyPost_ret (v := .tuple #[.agg #[.int .i64 v.kind, .int .i64 v.n, .string ⟨v.s.toArray⟩, .slice va v.keys.length ca, .slice vb v.l.length cb], .int .i64 (-1)]) ?_ rfl ?_
                    · simp only [set5] at z0 z1 z2 z3 z4
                      simp [results, Tryd.results27, go_sem, z0, z1, z2, z3, z4]
                    · refine ⟨r1, ?_⟩
                      rw [RN.out]
                      exact ⟨v.kind, v.n, v.s, va, vb, v.keys.length, ca, v.l.length, cb, rfl⟩
                  | some p =>
                    obtain ⟨x, r2⟩ := p
                    rw [hvr] at hv3
                    obtain ⟨a7, a8, c7, c8, j3, rfl, hj1, hj2', hx⟩ := hv3
                    simp only at hj2' hx
                    have XV := hidI hx
                    have HJ := hidI hj2'
                    have NT : Hid (objR (valR D) (s.drop i) = (if (memV v key).isSome then none else some (withV v key x, r2)).bind fun p => mbs (valR D) p.1 p.2) := hidI (by rw [VV.out, hvr]; rfl)
                    have hjk : Hid (j2 + 1 < j3) := hidI (by
                      have h9 := valR_len D _ _ hvr
                      rw [← hj2'] at h9
                      simp only [List.length_drop] at h9
                      omega)
                    clear hvr VV hj2' hx
                    simp only
                    have M4 : Hid (MOI D w v va vb ca cb (w3.alloc (.cells #[.int .i64 x.kind, .int .i64 x.n, .string ⟨x.s.toArray⟩, .slice a7 x.keys.length c7, .slice a8 x.l.length c8] 25))) := hidI (M3.out.bel (bel_alloc _ _))
                    have BX : Hid (BoxIs (w3.alloc (.cells #[.int .i64 x.kind, .int .i64 x.n, .string ⟨x.s.toArray⟩, .slice a7 x.keys.length c7, .slice a8 x.l.length c8] 25)) w3.heap.size (.int .i64 x.kind) (.int .i64 x.n) (.string ⟨x.s.toArray⟩) (.slice a7 x.keys.length c7) (.slice a8 x.l.length c8)) := hidI (heap_alloc_new w3 _)
                    obtain ⟨p0, p1, p2, p3, p4, q0, q1, q2, q3, q4⟩ := M4.out.1.c
                    obtain ⟨m0, m1, m2, m3, m4, n0, n1, n2, n3, n4⟩ := M4.out.2.1.c
                    have nj : ¬ (j3 : Int) < 0 := by omega
                    go_wp2_with fail
                    refine (skip_at _ s j3 hs hj1).mono ?_
                    rintro e w4 ⟨k4, rfl, hk4, hk5, hk6, rfl⟩
                    have HK6 := hidI hk6
                    clear hk6
                    go_wp2_with fail
                    refine (rmember_is _ _ v _ key (by exact M4.out.2.2.1.is)).mono ?_
                    rintro e w5 ⟨yv, rfl, hb5, hy⟩
                    obtain ⟨y, hye⟩ : ∃ y, (memV v key).getD zeroT = y := ⟨_, rfl⟩
                    rw [hye] at hy
                    obtain ⟨a5, a6, c5, c6, rfl⟩ := hy.form
                    have M6 : Hid (MOI D w v va vb ca cb (w5.alloc (.cells #[.int .i64 y.kind, .int .i64 y.n, .string ⟨y.s.toArray⟩, .slice a5 y.keys.length c5, .slice a6 y.l.length c6] 25))) := hidI (M4.out.bel (bel_trans hb5 (bel_alloc _ _)))
                    have BX6 : Hid (BoxIs (w5.alloc (.cells #[.int .i64 y.kind, .int .i64 y.n, .string ⟨y.s.toArray⟩, .slice a5 y.keys.length c5, .slice a6 y.l.length c6] 25)) w3.heap.size (.int .i64 x.kind) (.int .i64 x.n) (.string ⟨x.s.toArray⟩) (.slice a7 x.keys.length c7) (.slice a8 x.l.length c8)) := hidI (box_bel (bel_trans hb5 (bel_alloc _ _)) BX.out)
                    have XV6 := hidI ((XV.out.bel (bel_alloc w3 (.cells #[.int .i64 x.kind, .int .i64 x.n, .string ⟨x.s.toArray⟩, .slice a7 x.keys.length c7, .slice a8 x.l.length c8] 25))).bel (bel_trans hb5 (bel_alloc w5 (.cells #[.int .i64 y.kind, .int .i64 y.n, .string ⟨y.s.toArray⟩, .slice a5 y.keys.length c5, .slice a6 y.l.length c6] 25))))
                    have S3 : Hid (w.heap.size + 2 ≤ wt.heap.size) := hidI (by have := MT.out.2.1.lt; omega)
                    clear hb5 hy hye p0 p1 p2 p3 p4 q0 q1 q2 q3 q4 m0 m1 m2 m3 m4 n0 n1 n2 n3 n4
                    obtain ⟨p0, p1, p2, p3, p4, q0, q1, q2, q3, q4⟩ := M6.out.1.c
                    obtain ⟨m0, m1, m2, m3, m4, n0, n1, n2, n3, n4⟩ := M6.out.2.1.c
                    cases hms : (memV v key).isSome with
                    | true =>
                      have RN : Hid (objR (valR D) (s.drop i) = none) := hidI (by rw [NT.out, hms]; rfl)
                      clear hms
                      have R := hidI M6.out.out
                      go_wp2_with fail
                      obtain ⟨r1, r2, r3⟩ := R.out
                      obtain ⟨z0, z1, z2, z3, z4, -⟩ := r3.c
                      refine bodyPost_ret (v := .tuple #[.agg #[.int .i64 v.kind, .int .i64 v.n, .string ⟨v.s.toArray⟩, .slice va v.keys.length ca, .slice vb v.l.length cb], .int .i64 (-1)]) ?_ rfl ?_
                      · simp only [set5] at z0 z1 z2 z3 z4
                        simp [results, Tryd.results27, go_sem, z0, z1, z2, z3, z4]
                      · refine ⟨r1, ?_⟩
                        rw [RN.out]
                        exact ⟨v.kind, v.n, v.s, va, vb, v.keys.length, ca, v.l.length, cb, rfl⟩
                    | false =>
                      have NU : Hid (objR (valR D) (s.drop i) = mbs (valR D) (withV v key x) (s.drop k4)) := hidI (by rw [NT.out, hms, HK6.out, HJ.out, mbs_drop (valR_len D)]; rfl)
                      obtain ⟨f0, f1, f2, f3, f4, -⟩ := BX6.out.c
                      clear hms NT
                      go_wp2_with fail
                      refine (rwith_at _ (fun k => w.heap.size + 2 ≤ k) D v x _ _ key (by exact M6.out.2.2.1) (by exact XV6.out.weak fun k hk => by have := S3.out; omega) OB.out (by have := VL.out; omega) (by unfold maxLen; omega)).mono ?_
                      rintro e w6 ⟨zv, rfl, hz, hb6⟩
                      obtain ⟨z, hze⟩ : ∃ z, withV v key x = z := ⟨_, rfl⟩
                      have OBZ : Hid (Ob z ∧ z.l.length ≤ v.l.length + 1) := hidI (by rw [← hze]; exact ⟨ob_with OB.out key x, with_items _ _ _⟩)
                      rw [hze] at hz NU
                      obtain ⟨b7, b8, d7, d8, rfl⟩ := hz.shape
                      have M7 := hidI (M6.out.bel hb6)
                      have FIN := hidI (M7.out.put hz (by have := M6.out.2.1.lt; omega))
                      clear hz hze hb6 p0 p1 p2 p3 p4 q0 q1 q2 q3 q4 m0 m1 m2 m3 m4 n0 n1 n2 n3 n4 f0 f1 f2 f3 f4
                      obtain ⟨p0, p1, p2, p3, p4, q0, q1, q2, q3, q4⟩ := M7.out.1.c
                      obtain ⟨m0, m1, m2, m3, m4, n0, n1, n2, n3, n4⟩ := M7.out.2.1.c
                      go_wp2_with fail
                      go_roundg (2 * (s.length - k4) + 0)
                      case measure => rw [GK.out]; have := hjk.out; split <;> omega
                      case rel => exact ⟨k4, false, z, b7, b8, d7, d8, s.drop j3, hk5, rfl, rfl, rfl, (fun h => by cases h), (by have := hjk.out; have := OBZ.out.2; have := HAL.out; omega), OBZ.out.1, HK6.out, NU, FIN.out⟩
                · have t1 : ((cc.toNat : Int) != 58) = true := by rw [bne_iff_ne]; intro e; exact h58 (UInt8.toNat_inj.1 (by show cc.toNat = 58; omega))
                  have RN : Hid (objR (valR D) (s.drop i) = none) := hidI (by rw [KK.out, ← markS_drop, ← hj5, hdc, mark_miss NC.out h58]; rfl)
                  clear h58 hdc hj5 KK
                  have R := hidI MK.out.out
                  go_wp2_with fail
                  obtain ⟨r1, r2, r3⟩ := R.out
                  obtain ⟨z0, z1, z2, z3, z4, -⟩ := r3.c
                  refine bodyPost_ret (v := .tuple #[.agg #[.int .i64 v.kind, .int .i64 v.n, .string ⟨v.s.toArray⟩, .slice va v.keys.length ca, .slice vb v.l.length cb], .int .i64 (-1)]) ?_ rfl ?_
                  · simp only [set5] at z0 z1 z2 z3 z4
                    simp [results, Tryd.results27, go_sem, z0, z1, z2, z3, z4]
                  · refine ⟨r1, ?_⟩
                    rw [RN.out]
                    exact ⟨v.kind, v.n, v.s, va, vb, v.keys.length, ca, v.l.length, cb, rfl⟩
              · have y3 : (s.length : Int) ≤ (j2 : Int) := by omega
                have RN : Hid (objR (valR D) (s.drop i) = none) := hidI (by rw [KK.out, ← markS_drop, ← hj5, List.drop_eq_nil_of_le (by omega)]; rfl)
                clear hj5 KK
                have R := hidI MK.out.out
                go_wp2_with fail
                obtain ⟨r1, r2, r3⟩ := R.out
                obtain ⟨z0, z1, z2, z3, z4, -⟩ := r3.c
                refine bodyPost_ret (v := .tuple #[.agg #[.int .i64 v.kind, .int .i64 v.n, .string ⟨v.s.toArray⟩, .slice va v.keys.length ca, .slice vb v.l.length cb], .int .i64 (-1)]) ?_ rfl ?_
                · simp only [set5] at z0 z1 z2 z3 z4
                  simp [results, Tryd.results27, go_sem, z0, z1, z2, z3, z4]
                · refine ⟨r1, ?_⟩
                  rw [RN.out]
                  exact ⟨v.kind, v.n, v.s, va, vb, v.keys.length, ca, v.l.length, cb, rfl⟩
          · have s1 : ((c.toNat : Int) != 34) = true := by rw [bne_iff_ne]; intro e; exact h34 (UInt8.toNat_inj.1 (by show c.toNat = 34; omega))
            have RN : Hid (objR (valR D) (s.drop i) = none) := hidI (by rw [MM.out, HDR.out, memR_no _ _ NSP.out h34]; rfl)
            clear h34
            have R := hidI M.out.out
            go_wp2_with fail
            obtain ⟨r1, r2, r3⟩ := R.out
            obtain ⟨z0, z1, z2, z3, z4, -⟩ := r3.c
            refine bodyPost_ret (v := .tuple #[.agg #[.int .i64 v.kind, .int .i64 v.n, .string ⟨v.s.toArray⟩, .slice va v.keys.length ca, .slice vb v.l.length cb], .int .i64 (-1)]) ?_ rfl ?_
            · simp only [set5] at z0 z1 z2 z3 z4
              simp [results, Tryd.results27, go_sem, z0, z1, z2, z3, z4]
            · refine ⟨r1, ?_⟩
              rw [RN.out]
              exact ⟨v.kind, v.n, v.s, va, vb, v.keys.length, ca, v.l.length, cb, rfl⟩
        | false =>
          clear hb0 hc hdr
          by_cases h44 : c = 44
          · have e2 : ((c.toNat : Int) != 44) = false := by rw [h44]; rfl
            have CM : Hid (objR (valR D) (s.drop i) = (memR (valR D) v (s.drop (k + 1))).bind fun p => mbs (valR D) p.1 p.2) := hidI (by rw [TT.out, HDR.out, h44]; exact mbs_comma (valR_len D) _ _)
            clear h125 h44 TT
            go_wp2_with fail
            refine (skip_at _ s (k + 1) hs (by omega)).mono ?_
            rintro e w2 ⟨k2, rfl, hk7, hk8, hk9, hw2⟩
            have hw3 := hw2.symm
            subst hw3
            have NSK := hidI hk9
            have MM : Hid (objR (valR D) (s.drop i) = (memR (valR D) v (s.drop k2)).bind fun p => mbs (valR D) p.1 p.2) := hidI (by rw [CM.out, hk9, memR_drop])
            clear hk9 CM hw2
            by_cases hl1 : k2 < s.length
            · have hszq : k2 < (ByteArray.mk s.toArray).size := by rw [ba_len]; exact hl1
              have hgetq : (ByteArray.mk s.toArray)[k2] = s[k2] := rfl
              have x1 : (0 : Int) ≤ (k2 : Int) := by omega
              have x2 : (k2 : Int) < (s.length : Int) := by omega
              have x3 : ¬ (s.length : Int) ≤ (k2 : Int) := by omega
              have hdq := List.drop_eq_getElem_cons hl1
              obtain ⟨cq, hcq⟩ : ∃ cq, s[k2] = cq := ⟨_, rfl⟩
              rw [hcq] at hgetq hdq
              have hcq256 : (cq.toNat : Int) < 256 := by have := cq.toNat_lt; omega
              have NQ : Hid (isSp cq = false) := hidI (head_ns NSK.out hdq)
              clear hcq
              by_cases h34 : cq = 34
              · have s1 : ((cq.toNat : Int) != 34) = false := by rw [h34]; rfl
                have KD : Hid (s.drop k2 = 34 :: s.drop (k2 + 1)) := hidI (by rw [hdq, h34])
                clear h34 hdq
                go_wp2_with fail
                refine (textAt_at _ s k2 hs (by omega)).mono ?_
                rintro e wt ⟨hbt, hta⟩
                have MT := hidI (M.out.bel hbt)
                clear p0 p1 p2 p3 p4 q0 q1 q2 q3 q4 m0 m1 m2 m3 m4 n0 n1 n2 n3 n4
                obtain ⟨p0, p1, p2, p3, p4, q0, q1, q2, q3, q4⟩ := MT.out.1.c
                obtain ⟨m0, m1, m2, m3, m4, n0, n1, n2, n3, n4⟩ := MT.out.2.1.c
                cases htx : txtR (s.drop (k2 + 1)) with
                | none =>
                  rw [htx] at hta
                  obtain rfl := hta
                  unfold str
                  have RN : Hid (objR (valR D) (s.drop i) = none) := hidI (by rw [MM.out, KD.out, memR_key, htx]; rfl)
                  clear htx hbt
                  have R := hidI MT.out.out
                  go_wp2_with fail
                  obtain ⟨r1, r2, r3⟩ := R.out
                  obtain ⟨z0, z1, z2, z3, z4, -⟩ := r3.c
                  refine bodyPost_ret (v := .tuple #[.agg #[.int .i64 v.kind, .int .i64 v.n, .string ⟨v.s.toArray⟩, .slice va v.keys.length ca, .slice vb v.l.length cb], .int .i64 (-1)]) ?_ rfl ?_
                  · simp only [set5] at z0 z1 z2 z3 z4
                    simp [results, Tryd.results27, go_sem, z0, z1, z2, z3, z4]
                  · refine ⟨r1, ?_⟩
                    rw [RN.out]
                    exact ⟨v.kind, v.n, v.s, va, vb, v.keys.length, ca, v.l.length, cb, rfl⟩
                | some q =>
                  obtain ⟨key, r1⟩ := q
                  rw [htx] at hta
                  obtain ⟨j, rfl, hj1, hjr⟩ := hta
                  simp only at hjr
                  unfold str
                  have KK : Hid (objR (valR D) (s.drop i) = ((markS 58 (s.drop j)).bind fun l => (valR D l).bind fun p => if (memV v key).isSome then none else some (withV v key p.1, p.2)).bind fun p => mbs (valR D) p.1 p.2) := hidI (by rw [MM.out, KD.out, memR_key, htx, hjr]; rfl)
                  have hkl : key.length ≤ 60 := by
                    unfold txtR at htx
                    obtain ⟨q, h1, h2⟩ := Option.bind_eq_some_iff.1 htx
                    split at h2
                    · rename_i h3
                      simp only [Option.some.injEq] at h2
                      rw [h2] at h3; exact h3
                    · cases h2
                  have hjkk : k2 < j := by
                    have h9 : (s.drop j).length < (s.drop (k2 + 1)).length + 1 := by
                      rw [hjr]
                      unfold txtR bod at htx
                      obtain ⟨q, h1, h2⟩ := Option.bind_eq_some_iff.1 htx
                      have h3 := bodyS_len _ _ _ _ h1
                      split at h2
                      · simp only [Option.some.injEq] at h2
                        rw [h2] at h3
                        simp only at h3
                        omega
                      · cases h2
                    simp only [List.length_drop] at h9
                    omega
                  have nj0 : ¬ (j : Int) < 0 := by omega
                  simp only
                  clear htx hbt hjr
                  go_wp2_with fail
                  refine (skip_at _ s j hs hj1).mono ?_
                  rintro e w2 ⟨j2, rfl, hj3, hj4, hj5, hw2⟩
                  have hw3 := hw2.symm
                  subst hw3
                  have MK := hidI MT.out
                  clear hw2
                  by_cases hl2 : j2 < s.length
                  · have hszc : j2 < (ByteArray.mk s.toArray).size := by rw [ba_len]; exact hl2
                    have hgetc : (ByteArray.mk s.toArray)[j2] = s[j2] := rfl
                    have y1 : (0 : Int) ≤ (j2 : Int) := by omega
                    have y2 : (j2 : Int) < (s.length : Int) := by omega
                    have y3 : ¬ (s.length : Int) ≤ (j2 : Int) := by omega
                    have hdc := List.drop_eq_getElem_cons hl2
                    obtain ⟨cc, hcc⟩ : ∃ cc, s[j2] = cc := ⟨_, rfl⟩
                    rw [hcc] at hgetc hdc
                    have hcc256 : (cc.toNat : Int) < 256 := by have := cc.toNat_lt; omega
                    have NC : Hid (isSp cc = false) := hidI (head_ns hj5 hdc)
                    clear hcc
                    by_cases h58 : cc = 58
                    · have t1 : ((cc.toNat : Int) != 58) = false := by rw [h58]; rfl
                      have VV : Hid (objR (valR D) (s.drop i) = ((valR D (s.drop (j2 + 1))).bind fun p => if (memV v key).isSome then none else some (withV v key p.1, p.2)).bind fun p => mbs (valR D) p.1 p.2) := hidI (by rw [KK.out, ← markS_drop, ← hj5, hdc, h58, mark_hit 58 (by decide)]; rfl)
                      clear h58 hdc hj5 KK
                      go_wp2_with fail
                      refine (IH.out _ s (j2 + 1) (dep + 1) (by exact HD.out) hs (by omega)).mono ?_
                      rintro e w3 ⟨hb3, hv3⟩
                      have M3 := hidI (MK.out.bel hb3)
                      have BB := hidI hb3.size
                      clear hb3 p0 p1 p2 p3 p4 q0 q1 q2 q3 q4 m0 m1 m2 m3 m4 n0 n1 n2 n3 n4
                      cases hvr : valR D (s.drop (j2 + 1)) with
                      | none =>
                        rw [hvr] at hv3
                        obtain ⟨k9, n9, ss9, a7, a8, l7, c7, l8, c8, rfl⟩ := hv3
                        have RN : Hid (objR (valR D) (s.drop i) = none) := hidI (by rw [VV.out, hvr]; rfl)
                        clear hvr VV
                        have M4 : Hid (MOI D w v va vb ca cb (w3.alloc (.cells #[.int .i64 k9, .int .i64 n9, .string ⟨ss9.toArray⟩, .slice a7 l7 c7, .slice a8 l8 c8] 25))) := hidI (M3.out.bel (bel_alloc _ _))
                        obtain ⟨p0, p1, p2, p3, p4, q0, q1, q2, q3, q4⟩ := M4.out.1.c
                        obtain ⟨m0, m1, m2, m3, m4, n0, n1, n2, n3, n4⟩ := M4.out.2.1.c
                        have R := hidI M4.out.out
                        go_wp2_with fail
                        obtain ⟨r1, r2, r3⟩ := R.out
                        obtain ⟨z0, z1, z2, z3, z4, -⟩ := r3.c
                        refine bodyPost_ret (v := .tuple #[.agg #[.int .i64 v.kind, .int .i64 v.n, .string ⟨v.s.toArray⟩, .slice va v.keys.length ca, .slice vb v.l.length cb], .int .i64 (-1)]) ?_ rfl ?_
                        · simp only [set5] at z0 z1 z2 z3 z4
                          simp [results, Tryd.results27, go_sem, z0, z1, z2, z3, z4]
                        · refine ⟨r1, ?_⟩
                          rw [RN.out]
                          exact ⟨v.kind, v.n, v.s, va, vb, v.keys.length, ca, v.l.length, cb, rfl⟩
                      | some p =>
                        obtain ⟨x, r2⟩ := p
                        rw [hvr] at hv3
                        obtain ⟨a7, a8, c7, c8, j3, rfl, hj1, hj2', hx⟩ := hv3
                        simp only at hj2' hx
                        have XV := hidI hx
                        have HJ := hidI hj2'
                        have NT : Hid (objR (valR D) (s.drop i) = (if (memV v key).isSome then none else some (withV v key x, r2)).bind fun p => mbs (valR D) p.1 p.2) := hidI (by rw [VV.out, hvr]; rfl)
                        have hjk : Hid (j2 + 1 < j3) := hidI (by
                          have h9 := valR_len D _ _ hvr
                          rw [← hj2'] at h9
                          simp only [List.length_drop] at h9
                          omega)
                        clear hvr VV hj2' hx
                        simp only
                        have M4 : Hid (MOI D w v va vb ca cb (w3.alloc (.cells #[.int .i64 x.kind, .int .i64 x.n, .string ⟨x.s.toArray⟩, .slice a7 x.keys.length c7, .slice a8 x.l.length c8] 25))) := hidI (M3.out.bel (bel_alloc _ _))
                        have BX : Hid (BoxIs (w3.alloc (.cells #[.int .i64 x.kind, .int .i64 x.n, .string ⟨x.s.toArray⟩, .slice a7 x.keys.length c7, .slice a8 x.l.length c8] 25)) w3.heap.size (.int .i64 x.kind) (.int .i64 x.n) (.string ⟨x.s.toArray⟩) (.slice a7 x.keys.length c7) (.slice a8 x.l.length c8)) := hidI (heap_alloc_new w3 _)
                        obtain ⟨p0, p1, p2, p3, p4, q0, q1, q2, q3, q4⟩ := M4.out.1.c
                        obtain ⟨m0, m1, m2, m3, m4, n0, n1, n2, n3, n4⟩ := M4.out.2.1.c
                        have nj : ¬ (j3 : Int) < 0 := by omega
                        go_wp2_with fail
                        refine (skip_at _ s j3 hs hj1).mono ?_
                        rintro e w4 ⟨k4, rfl, hk4, hk5, hk6, rfl⟩
                        have HK6 := hidI hk6
                        clear hk6
                        go_wp2_with fail
                        refine (rmember_is _ _ v _ key (by exact M4.out.2.2.1.is)).mono ?_
                        rintro e w5 ⟨yv, rfl, hb5, hy⟩
                        obtain ⟨y, hye⟩ : ∃ y, (memV v key).getD zeroT = y := ⟨_, rfl⟩
                        rw [hye] at hy
                        obtain ⟨a5, a6, c5, c6, rfl⟩ := hy.form
                        have M6 : Hid (MOI D w v va vb ca cb (w5.alloc (.cells #[.int .i64 y.kind, .int .i64 y.n, .string ⟨y.s.toArray⟩, .slice a5 y.keys.length c5, .slice a6 y.l.length c6] 25))) := hidI (M4.out.bel (bel_trans hb5 (bel_alloc _ _)))
                        have BX6 : Hid (BoxIs (w5.alloc (.cells #[.int .i64 y.kind, .int .i64 y.n, .string ⟨y.s.toArray⟩, .slice a5 y.keys.length c5, .slice a6 y.l.length c6] 25)) w3.heap.size (.int .i64 x.kind) (.int .i64 x.n) (.string ⟨x.s.toArray⟩) (.slice a7 x.keys.length c7) (.slice a8 x.l.length c8)) := hidI (box_bel (bel_trans hb5 (bel_alloc _ _)) BX.out)
                        have XV6 := hidI ((XV.out.bel (bel_alloc w3 (.cells #[.int .i64 x.kind, .int .i64 x.n, .string ⟨x.s.toArray⟩, .slice a7 x.keys.length c7, .slice a8 x.l.length c8] 25))).bel (bel_trans hb5 (bel_alloc w5 (.cells #[.int .i64 y.kind, .int .i64 y.n, .string ⟨y.s.toArray⟩, .slice a5 y.keys.length c5, .slice a6 y.l.length c6] 25))))
                        have S3 : Hid (w.heap.size + 2 ≤ wt.heap.size) := hidI (by have := MT.out.2.1.lt; omega)
                        clear hb5 hy hye p0 p1 p2 p3 p4 q0 q1 q2 q3 q4 m0 m1 m2 m3 m4 n0 n1 n2 n3 n4
                        obtain ⟨p0, p1, p2, p3, p4, q0, q1, q2, q3, q4⟩ := M6.out.1.c
                        obtain ⟨m0, m1, m2, m3, m4, n0, n1, n2, n3, n4⟩ := M6.out.2.1.c
                        cases hms : (memV v key).isSome with
                        | true =>
                          have RN : Hid (objR (valR D) (s.drop i) = none) := hidI (by rw [NT.out, hms]; rfl)
                          clear hms
                          have R := hidI M6.out.out
                          go_wp2_with fail
                          obtain ⟨r1, r2, r3⟩ := R.out
                          obtain ⟨z0, z1, z2, z3, z4, -⟩ := r3.c
                          refine bodyPost_ret (v := .tuple #[.agg #[.int .i64 v.kind, .int .i64 v.n, .string ⟨v.s.toArray⟩, .slice va v.keys.length ca, .slice vb v.l.length cb], .int .i64 (-1)]) ?_ rfl ?_
                          · simp only [set5] at z0 z1 z2 z3 z4
                            simp [results, Tryd.results27, go_sem, z0, z1, z2, z3, z4]
                          · refine ⟨r1, ?_⟩
                            rw [RN.out]
                            exact ⟨v.kind, v.n, v.s, va, vb, v.keys.length, ca, v.l.length, cb, rfl⟩
                        | false =>
                          have NU : Hid (objR (valR D) (s.drop i) = mbs (valR D) (withV v key x) (s.drop k4)) := hidI (by rw [NT.out, hms, HK6.out, HJ.out, mbs_drop (valR_len D)]; rfl)
                          obtain ⟨f0, f1, f2, f3, f4, -⟩ := BX6.out.c
                          clear hms NT
                          go_wp2_with fail
                          refine (rwith_at _ (fun k => w.heap.size + 2 ≤ k) D v x _ _ key (by exact M6.out.2.2.1) (by exact XV6.out.weak fun k hk => by have := S3.out; omega) OB.out (by have := VL.out; omega) (by unfold maxLen; omega)).mono ?_
                          rintro e w6 ⟨zv, rfl, hz, hb6⟩
                          obtain ⟨z, hze⟩ : ∃ z, withV v key x = z := ⟨_, rfl⟩
                          have OBZ : Hid (Ob z ∧ z.l.length ≤ v.l.length + 1) := hidI (by rw [← hze]; exact ⟨ob_with OB.out key x, with_items _ _ _⟩)
                          rw [hze] at hz NU
                          obtain ⟨b7, b8, d7, d8, rfl⟩ := hz.shape
                          have M7 := hidI (M6.out.bel hb6)
                          have FIN := hidI (M7.out.put hz (by have := M6.out.2.1.lt; omega))
                          clear hz hze hb6 p0 p1 p2 p3 p4 q0 q1 q2 q3 q4 m0 m1 m2 m3 m4 n0 n1 n2 n3 n4 f0 f1 f2 f3 f4
                          obtain ⟨p0, p1, p2, p3, p4, q0, q1, q2, q3, q4⟩ := M7.out.1.c
                          obtain ⟨m0, m1, m2, m3, m4, n0, n1, n2, n3, n4⟩ := M7.out.2.1.c
                          go_wp2_with fail
                          go_roundg (2 * (s.length - k4) + 0)
                          case measure => rw [GK.out]; have := hjk.out; split <;> omega
                          case rel => exact ⟨k4, false, z, b7, b8, d7, d8, s.drop j3, hk5, rfl, rfl, rfl, (fun h => by cases h), (by have := hjk.out; have := OBZ.out.2; have := HAL.out; omega), OBZ.out.1, HK6.out, NU, FIN.out⟩
                    · have t1 : ((cc.toNat : Int) != 58) = true := by rw [bne_iff_ne]; intro e; exact h58 (UInt8.toNat_inj.1 (by show cc.toNat = 58; omega))
                      have RN : Hid (objR (valR D) (s.drop i) = none) := hidI (by rw [KK.out, ← markS_drop, ← hj5, hdc, mark_miss NC.out h58]; rfl)
                      clear h58 hdc hj5 KK
                      have R := hidI MK.out.out
                      go_wp2_with fail
                      obtain ⟨r1, r2, r3⟩ := R.out
                      obtain ⟨z0, z1, z2, z3, z4, -⟩ := r3.c
                      refine bodyPost_ret (v := .tuple #[.agg #[.int .i64 v.kind, .int .i64 v.n, .string ⟨v.s.toArray⟩, .slice va v.keys.length ca, .slice vb v.l.length cb], .int .i64 (-1)]) ?_ rfl ?_
                      · simp only [set5] at z0 z1 z2 z3 z4
                        simp [results, Tryd.results27, go_sem, z0, z1, z2, z3, z4]
                      · refine ⟨r1, ?_⟩
                        rw [RN.out]
                        exact ⟨v.kind, v.n, v.s, va, vb, v.keys.length, ca, v.l.length, cb, rfl⟩
                  · have y3 : (s.length : Int) ≤ (j2 : Int) := by omega
                    have RN : Hid (objR (valR D) (s.drop i) = none) := hidI (by rw [KK.out, ← markS_drop, ← hj5, List.drop_eq_nil_of_le (by omega)]; rfl)
                    clear hj5 KK
                    have R := hidI MK.out.out
                    go_wp2_with fail
                    obtain ⟨r1, r2, r3⟩ := R.out
                    obtain ⟨z0, z1, z2, z3, z4, -⟩ := r3.c
                    refine bodyPost_ret (v := .tuple #[.agg #[.int .i64 v.kind, .int .i64 v.n, .string ⟨v.s.toArray⟩, .slice va v.keys.length ca, .slice vb v.l.length cb], .int .i64 (-1)]) ?_ rfl ?_
                    · simp only [set5] at z0 z1 z2 z3 z4
                      simp [results, Tryd.results27, go_sem, z0, z1, z2, z3, z4]
                    · refine ⟨r1, ?_⟩
                      rw [RN.out]
                      exact ⟨v.kind, v.n, v.s, va, vb, v.keys.length, ca, v.l.length, cb, rfl⟩
              · have s1 : ((cq.toNat : Int) != 34) = true := by rw [bne_iff_ne]; intro e; exact h34 (UInt8.toNat_inj.1 (by show cq.toNat = 34; omega))
                have RN : Hid (objR (valR D) (s.drop i) = none) := hidI (by rw [MM.out, hdq, memR_no _ _ NQ.out h34]; rfl)
                clear h34 hdq
                have R := hidI M.out.out
                go_wp2_with fail
                obtain ⟨r1, r2, r3⟩ := R.out
                obtain ⟨z0, z1, z2, z3, z4, -⟩ := r3.c
                refine bodyPost_ret (v := .tuple #[.agg #[.int .i64 v.kind, .int .i64 v.n, .string ⟨v.s.toArray⟩, .slice va v.keys.length ca, .slice vb v.l.length cb], .int .i64 (-1)]) ?_ rfl ?_
                · simp only [set5] at z0 z1 z2 z3 z4
                  simp [results, Tryd.results27, go_sem, z0, z1, z2, z3, z4]
                · refine ⟨r1, ?_⟩
                  rw [RN.out]
                  exact ⟨v.kind, v.n, v.s, va, vb, v.keys.length, ca, v.l.length, cb, rfl⟩
            · have x3 : (s.length : Int) ≤ (k2 : Int) := by omega
              have RN : Hid (objR (valR D) (s.drop i) = none) := hidI (by rw [MM.out, List.drop_eq_nil_of_le (by omega)]; rfl)
              have R := hidI M.out.out
              go_wp2_with fail
              obtain ⟨r1, r2, r3⟩ := R.out
              obtain ⟨z0, z1, z2, z3, z4, -⟩ := r3.c
              refine bodyPost_ret (v := .tuple #[.agg #[.int .i64 v.kind, .int .i64 v.n, .string ⟨v.s.toArray⟩, .slice va v.keys.length ca, .slice vb v.l.length cb], .int .i64 (-1)]) ?_ rfl ?_
              · simp only [set5] at z0 z1 z2 z3 z4
                simp [results, Tryd.results27, go_sem, z0, z1, z2, z3, z4]
              · refine ⟨r1, ?_⟩
                rw [RN.out]
                exact ⟨v.kind, v.n, v.s, va, vb, v.keys.length, ca, v.l.length, cb, rfl⟩
          · have e2 : ((c.toNat : Int) != 44) = true := by rw [bne_iff_ne]; intro e; exact h44 (UInt8.toNat_inj.1 (by show c.toNat = 44; omega))
            have RN : Hid (objR (valR D) (s.drop i) = none) := hidI (by rw [TT.out, HDR.out]; exact mbs_bad (valR D) _ NSP.out h44 h125 _)
            clear h125 h44 TT
            have R := hidI M.out.out
            go_wp2_with fail
            obtain ⟨r1, r2, r3⟩ := R.out
            obtain ⟨z0, z1, z2, z3, z4, -⟩ := r3.c
            refine bodyPost_ret (v := .tuple #[.agg #[.int .i64 v.kind, .int .i64 v.n, .string ⟨v.s.toArray⟩, .slice va v.keys.length ca, .slice vb v.l.length cb], .int .i64 (-1)]) ?_ rfl ?_
            · simp only [set5] at z0 z1 z2 z3 z4
              simp [results, Tryd.results27, go_sem, z0, z1, z2, z3, z4]
            · refine ⟨r1, ?_⟩
              rw [RN.out]
              exact ⟨v.kind, v.n, v.s, va, vb, v.keys.length, ca, v.l.length, cb, rfl⟩
    · have d1 : ¬ (k : Int) < (s.length : Int) := by omega
      have d2 : (s.length : Int) ≤ (k : Int) := by omega
      have hnil : s.drop k = [] := List.drop_eq_nil_of_le (by omega)
      have RN : Hid (objR (valR D) (s.drop i) = none) := hidI (by
        rw [TT.out, hnil]
        cases b with
        | true => exact obs_nil (valR D)
        | false => exact mbs_nil (valR D) _)
      clear hnil hb0 TT
      cases b with
      | true =>
        have R := hidI M.out.out
        go_wp2_with fail
        obtain ⟨r1, r2, r3⟩ := R.out
        obtain ⟨z0, z1, z2, z3, z4, -⟩ := r3.c
        refine bodyPost_ret (v := .tuple #[.agg #[.int .i64 v.kind, .int .i64 v.n, .string ⟨v.s.toArray⟩, .slice va v.keys.length ca, .slice vb v.l.length cb], .int .i64 (-1)]) ?_ rfl ?_
        · simp only [set5] at z0 z1 z2 z3 z4
          simp [results, Tryd.results27, go_sem, z0, z1, z2, z3, z4]
        · refine ⟨r1, ?_⟩
          rw [RN.out]
          exact ⟨v.kind, v.n, v.s, va, vb, v.keys.length, ca, v.l.length, cb, rfl⟩
      | false =>
        have R := hidI M.out.out
        go_wp2_with fail
        obtain ⟨r1, r2, r3⟩ := R.out
        obtain ⟨z0, z1, z2, z3, z4, -⟩ := r3.c
        refine bodyPost_ret (v := .tuple #[.agg #[.int .i64 v.kind, .int .i64 v.n, .string ⟨v.s.toArray⟩, .slice va v.keys.length ca, .slice vb v.l.length cb], .int .i64 (-1)]) ?_ rfl ?_
        · simp only [set5] at z0 z1 z2 z3 z4
          simp [results, Tryd.results27, go_sem, z0, z1, z2, z3, z4]
        · refine ⟨r1, ?_⟩
          rw [RN.out]
          exact ⟨v.kind, v.n, v.s, va, vb, v.keys.length, ca, v.l.length, cb, rfl⟩
end Go.Proofs.YtkboplcffailoaaDoor

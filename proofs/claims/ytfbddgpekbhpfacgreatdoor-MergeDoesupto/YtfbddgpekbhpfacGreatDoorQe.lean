/- What appendValue of package json does, and Print. -/
import Derived.Test.YtfbddgpekbhpfacGreatDoorQd
set_option linter.unusedSimpArgs false
set_option linter.unusedVariables false
namespace Go.Proofs.YtfbddgpekbhpfacGreatDoor
open Go.RowKit

theorem tab_below {w : World} {B : Nat} (hG : Glob w) (hB : 4 ≤ B) : Lib.TabBelow Tryz.prog B w "internal/strconv.uint64pow10" .u64 Lib.pow10Tab := by
  intro w' hb
  obtain ⟨_, _, t3, f3, h3⟩ := hG
  have h4 := (hb.block 3 (by omega)).trans h3
  unfold Lib.TabIs World.var?
  rw [show Program.globalNamed Tryz.prog _ = some 3 from by kernel_rfl]
  simp [h4]
theorem appendInt_at (w : World) (B : Nat) (v : Value) (acc : List UInt8) (n : Int) (hn : I64 n) (h : BRow w B v acc) (hB : B ≤ w.heap.size) (hl : acc.length ≤ 1000000000) (hG : Glob w) (hgB : 4 ≤ B) :
    Calls Tryz.prog 49 #[v, .int .i64 n, .int .i64 10] w fun e w' => ∃ v', e = .returned v' ∧ BRow w' B v' (acc ++ Lib.itoa n) ∧ Fr B w w' := by
  refine (Tryz.strconv_AppendInt_10 B acc.length n hn.1 hn.2 v (Lib.byteCells acc) w h hB (by omega) (tab_below hG hgB)).mono ?_
  rintro e w' ⟨v', rfl, h1, h2, h3⟩
  rw [cells_append, ← List.length_append] at h1
  exact ⟨v', rfl, h1, h2, h3⟩

theorem app_zero : AppC 0 := fun _ _ _ _ _ _ hv => hv.elim
set_option maxRecDepth 100000 in
set_option maxHeartbeats 4000000 in
theorem app_succ (d : Nat) (ih : AppC d) : AppC (d + 1) := by
  intro w B v acc t val hv hsm h hB hG hgB hl
  have HV := hidI hv
  have IH := hidI ih
  have H := hidI h
  have HG := hidI hG
  have HS := hidI hsm
  obtain ⟨a7, a8, c7, c8, rfl⟩ := hv.shape
  have hn : I64 t.n := by obtain ⟨ks, ls, e, h1, h2, h3, h4, h5⟩ := hv; exact h2
  have HN := hidI hn
  have hs6 := hsm.1
  clear hv ih h hG hsm hn
  have hB1 : B ≤ (w.alloc (.cells #[.int .i64 t.kind, .int .i64 t.n, .string ⟨t.s.toArray⟩, .slice a7 t.keys.length c7, .slice a8 t.l.length c8] 25)).heap.size := by simp; omega
  have F1 : Hid (Fr B w (w.alloc (.cells #[.int .i64 t.kind, .int .i64 t.n, .string ⟨t.s.toArray⟩, .slice a7 t.keys.length c7, .slice a8 t.l.length c8] 25))) := fr_alloc _ _ _ hB
  have hla : acc.length ≤ 1000000000 := by omega
  by_cases k0 : t.kind = 0
  · have e0 : (t.kind == 0) = true := by simp [k0]
    have P : Hid (printS (d + 1) t = [110, 117, 108, 108]) := hidI (by simp [printS, k0])
    rw [P.out] at hl
    have K := hidI k0
    clear k0
    go_enter Tryz.func33, Tryz.ntmps33
    go_wp2_with (at_builtin; go_must (refine append_text rfl _ _ rfl B v acc [110, 117, 108, 108] rfl rfl (by exact H.out.alloc _) hB1 hla (by decide) ?_); intro v4 w4 hown4 hgrow4; refine Hid.out ?_)
    refine hidI ?_
    have D := hidI (And.intro hown4 (F1.out.trans hgrow4))
    clear hown4 hgrow4
    go_wp2_with fail
    go_ret
    exact ⟨v4, rfl, by rw [P.out]; exact D.out.1, D.out.2⟩
  by_cases k1 : t.kind = 1
  · have e1 : (t.kind == 1) = true := by simp [k1]
    have f0 : (t.kind == 0) = false := by simp [k1]
    have P : Hid (printS (d + 1) t = boolS (t.n == 1)) := hidI (by simp [printS, k1])
    rw [P.out] at hl
    have K := hidI k1
    clear k1
    go_enter Tryz.func33, Tryz.ntmps33
    go_wp2_with fail
    refine (appendBool_at _ B v acc (t.n == 1) (by exact H.out.alloc _) (by exact hB1) hla).mono ?_
    rintro e w4 ⟨v4, rfl, hown4, hgrow4⟩
    have D := hidI (And.intro hown4 (F1.out.trans hgrow4))
    clear hown4 hgrow4
    go_wp2_with fail
    go_ret
    exact ⟨v4, rfl, by rw [P.out]; exact D.out.1, D.out.2⟩
  by_cases k2 : t.kind = 2
  · have e2 : (t.kind == 2) = true := by simp [k2]
    have f0 : (t.kind == 0) = false := by simp [k2]
    have f1 : (t.kind == 1) = false := by simp [k2]
    have P : Hid (printS (d + 1) t = Lib.itoa t.n) := hidI (by simp [printS, k2])
    rw [P.out] at hl
    have K := hidI k2
    clear k2
    go_enter Tryz.func33, Tryz.ntmps33
    go_wp2_with fail
    refine (appendInt_at _ B v acc t.n HN.out (by exact H.out.alloc _) (by exact hB1) hla (by exact HG.out.fr F1.out hgB) hgB).mono ?_
    rintro e w4 ⟨v4, rfl, hown4, hgrow4⟩
    have D := hidI (And.intro hown4 (F1.out.trans hgrow4))
    clear hown4 hgrow4
    go_wp2_with fail
    go_ret
    exact ⟨v4, rfl, by rw [P.out]; exact D.out.1, D.out.2⟩
  by_cases k3 : t.kind = 3
  · have e3 : (t.kind == 3) = true := by simp [k3]
    have f0 : (t.kind == 0) = false := by simp [k3]
    have f1 : (t.kind == 1) = false := by simp [k3]
    have f2 : (t.kind == 2) = false := by simp [k3]
    have P : Hid (printS (d + 1) t = quoteS t.s) := hidI (by simp [printS, k3])
    rw [P.out] at hl
    have K := hidI k3
    clear k3
    go_enter Tryz.func33, Tryz.ntmps33
    go_wp2_with fail
    refine (appendQuoted_at _ B v acc t.s (by exact H.out.alloc _) (by exact hB1) (by omega) (by omega)).mono ?_
    rintro e w4 ⟨v4, rfl, hown4, hgrow4⟩
    have D := hidI (And.intro hown4 (F1.out.trans hgrow4))
    clear hown4 hgrow4
    go_wp2_with fail
    go_ret
    exact ⟨v4, rfl, by rw [P.out]; exact D.out.1, D.out.2⟩
  by_cases k4 : t.kind = 4
  · have e4 : (t.kind == 4) = true := by simp [k4]
    have f0 : (t.kind == 0) = false := by simp [k4]
    have f1 : (t.kind == 1) = false := by simp [k4]
    have f2 : (t.kind == 2) = false := by simp [k4]
    have f3 : (t.kind == 3) = false := by simp [k4]
    have P : Hid (printS (d + 1) t = 91 :: commaS (t.l.map (printS d)) ++ [93]) := hidI (by simp [printS, k4])
    rw [P.out] at hl
    have K := hidI k4
    clear k4
    go_enter Tryz.func33, Tryz.ntmps33
    go_wp2_with fail
    refine (appendList_st d IH.out _ B v acc t _ (by exact HV.out.fr F1.out) HS.out (by exact H.out.alloc _) (by exact hB1) (by exact HG.out.fr F1.out hgB) hgB (by simp only [List.length_append, List.length_cons, List.length_nil] at hl; omega)).mono ?_
    rintro e w4 ⟨v4, rfl, hown4, hgrow4⟩
    have D := hidI (And.intro hown4 (F1.out.trans hgrow4))
    clear hown4 hgrow4
    go_wp2_with fail
    go_ret
    exact ⟨v4, rfl, by rw [P.out]; exact D.out.1, D.out.2⟩
  have f0 : (t.kind == 0) = false := by rw [beq_eq_false_iff_ne]; exact k0
  have f1 : (t.kind == 1) = false := by rw [beq_eq_false_iff_ne]; exact k1
  have f2 : (t.kind == 2) = false := by rw [beq_eq_false_iff_ne]; exact k2
  have f3 : (t.kind == 3) = false := by rw [beq_eq_false_iff_ne]; exact k3
  have f4 : (t.kind == 4) = false := by rw [beq_eq_false_iff_ne]; exact k4
  have P : Hid (printS (d + 1) t = 123 :: commaS (pairS (printS d) t.keys t.l) ++ [125]) := hidI (by simp only [printS, if_neg k0, if_neg k1, if_neg k2, if_neg k3, if_neg k4])
  rw [P.out] at hl
  have K4 := hidI k4
  clear k0 k1 k2 k3 k4
  go_enter Tryz.func33, Tryz.ntmps33
  go_wp2_with fail
  refine (appendObject_st d IH.out _ B v acc t _ (by exact HV.out.fr F1.out) HS.out (by exact H.out.alloc _) (by exact hB1) (by exact HG.out.fr F1.out hgB) hgB K4.out (by simp only [List.length_append, List.length_cons, List.length_nil] at hl; omega)).mono ?_
  rintro e w4 ⟨v4, rfl, hown4, hgrow4⟩
  have D := hidI (And.intro hown4 (F1.out.trans hgrow4))
  clear hown4 hgrow4
  go_wp2_with fail
  go_ret
  exact ⟨v4, rfl, by rw [P.out]; exact D.out.1, D.out.2⟩
theorem app_all (d : Nat) : AppC d := by
  induction d with
  | zero => exact app_zero
  | succ d ih => exact app_succ d ih
end Go.Proofs.YtfbddgpekbhpfacGreatDoor

/- What decimal and place of package stairwellref do. -/
import Derived.Test.YtkboplcffailoaaGreatDoorWk
import Derived.Test.YtkboplcffailoaaGreatDoorTp
set_option linter.unusedSimpArgs false
set_option linter.unusedVariables false
namespace Go.Proofs.YtkboplcffailoaaGreatDoor
open Go.RowKit

theorem cat_dec (a b : List UInt8) : ByteArray.mk a.toArray ++ ByteArray.mk b.toArray = ByteArray.mk (a ++ b).toArray := ba_app a b
set_option maxRecDepth 100000 in
set_option maxHeartbeats 4000000 in
theorem rdec_small (w : World) (n : Nat) (hn : n < 10) :
    Calls Tryz.prog 25 #[.int .i64 n] w fun e w' => e = .returned (str (decS n)) ∧ Below w.heap.size w w' := by
  have HD := hidI (decS_small hn)
  have d0 : ¬ (n : Int) < 0 := by omega
  have d1 : (n : Int) < 10 := by omega
  have d2 : (0 : Int) ≤ (n : Int) := by omega
  obtain ⟨c, hc⟩ : ∃ c, Hid (UInt8.ofNat (48 + n) = c) := ⟨_, hidI rfl⟩
  have h8 : Hid (c.toNat = 48 + n) := hidI (by rw [← hc.out, UInt8.toNat_ofNat']; omega)
  rw [hc.out] at HD
  have kc : (convert 34 9 (.slice (some ⟨w.heap.size, 0, none⟩) 1 1)).run Tryz.prog (w.alloc (.cells #[.int .u8 (48 + (n : Int))] 5)) = .ok (.string ⟨#[c]⟩) (w.alloc (.cells #[.int .u8 (48 + (n : Int))] 5)) := by
    have h := run_convert_bytes_back (P := Tryz.prog) (w.alloc (.cells #[.int .u8 (48 + (n : Int))] 5)) 34 9 5 ⟨w.heap.size, 0, none⟩ 1 [c] Tryz.underlying34 Tryz.underlying5 Tryz.underlying9 (by
      intro j hj
      have hj0 : j = 0 := by simp at hj; omega
      subst hj0
      have hv : (([c] : List UInt8)[0].toNat : Int) = 48 + (n : Int) := by simp [h8.out]
      rw [hv]
      exact World.cell?_alloc_at _ _ _ _ rfl)
    exact h
  unfold str
  go_enter Tryz.func25, Tryz.ntmps25
  go_wp2_with fail
  go_ret
  refine ⟨?_, ?_⟩
  · rw [HD.out]; rfl
  · exact bel_alloc _ _
theorem decS_short {n : Nat} (h : n ≤ 9223372036854775807) : (decS n).length ≤ 20 :=
  dec_len 19 (Nat.lt_of_le_of_lt h (by decide))
set_option maxRecDepth 100000 in
set_option maxHeartbeats 4000000 in
theorem rdec_nat (d : Nat) : ∀ (w : World) (n : Nat), n < 10 ^ (d + 1) → n ≤ 9223372036854775807 →
    Calls Tryz.prog 25 #[.int .i64 n] w fun e w' => e = .returned (str (decS n)) ∧ Below w.heap.size w w' := by
  induction d with
  | zero => intro w n h _; exact rdec_small w n (by simpa using h)
  | succ d ih =>
    intro w n h hb
    by_cases hn : n < 10
    · exact rdec_small w n hn
    · have HD := hidI (decS_parts (n := n) (by omega))
      have HL : Hid (n / 10 < 10 ^ (d + 1) ∧ n / 10 ≤ 9223372036854775807 ∧ n % 10 < 10) := hidI ⟨by rw [Nat.pow_succ] at h; omega, by omega, by omega⟩
      have IH := hidI ih
      have hlen : ¬ 9223372036854775807 < (decS (n / 10)).length + (decS (n % 10)).length := by
        have h1 := decS_short (n := n / 10) (by omega)
        have h2 := decS_short (n := n % 10) (by omega)
        omega
      have d0 : ¬ (n : Int) < 0 := by omega
      have d1 : ¬ (n : Int) < 10 := by omega
      have hq : (n : Int).tdiv 10 = ((n / 10 : Nat) : Int) := by rw [Int.tdiv_eq_ediv_of_nonneg (by omega)]; omega
      have hr : (n : Int).tmod 10 = ((n % 10 : Nat) : Int) := by rw [Int.tmod_eq_emod_of_nonneg (by omega)]; omega
      clear ih h
      go_enter Tryz.func25, Tryz.ntmps25
      go_wp2_with fail
      refine (IH.out _ (n / 10) HL.out.1 HL.out.2.1).mono ?_
      rintro e w1 ⟨rfl, hb1⟩
      have K1 := hidI hb1
      clear hb1
      unfold str
      go_wp2_with fail
      refine (rdec_small _ (n % 10) HL.out.2.2).mono ?_
      rintro e w2 ⟨rfl, hb2⟩
      have K2 := hidI (bel_trans K1.out hb2)
      clear hb2
      unfold str
      go_wp2_with fail
      go_ret
      refine ⟨?_, K2.out⟩
      rw [HD.out, str, ← cat_dec]
      rfl
end Go.Proofs.YtkboplcffailoaaGreatDoor

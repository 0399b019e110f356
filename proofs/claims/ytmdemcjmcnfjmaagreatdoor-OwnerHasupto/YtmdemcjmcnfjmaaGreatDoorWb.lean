/- What marksWhole of package point does. -/
import Derived.Test.YtmdemcjmcnfjmaaGreatDoorWa
import Derived.Test.YtmdemcjmcnfjmaaGreatDoorVa
set_option linter.unusedSimpArgs false
set_option linter.unusedVariables false
namespace Go.Proofs.YtmdemcjmcnfjmaaGreatDoor
open Go.RowKit

set_option maxRecDepth 100000 in
set_option maxHeartbeats 1000000 in
theorem whole_at (w : World) (p : List UInt8) (hp : p.length ≤ 1000000) :
    Calls Tryz.prog 39 #[str p] w fun e w' => e = .returned (.bool (wholeP p)) ∧ w' = w := by
  unfold str
  go_enter Tryz.func39, Tryz.ntmps39
  go_wp2_with fail
  go_loop [3] (fun i => ∃ k : Nat, k ≤ p.length ∧ i = .int .i64 k ∧ Hid (wholeP p = wholeP (p.drop k))) (fun i => p.length - (intOf i).toNat)
  case atStart => exact ⟨0, Nat.zero_le _, rfl, hidI rfl⟩
  case round =>
    obtain ⟨k, hk, rfl, HA⟩ := hrel
    by_cases hlt : k < p.length
    · have hb : (p[k].toNat : Int) < 256 := by have := p[k].toNat_lt; omega
      have hsz : k < (ByteArray.mk p.toArray).size := by simpa [ByteArray.size] using hlt
      have hget : (ByteArray.mk p.toArray)[k] = p[k] := rfl
      have hdr : p.drop k = p[k] :: p.drop (k + 1) := List.drop_eq_getElem_cons hlt
      by_cases hc : p[k] = 126
      · have n1 : ((p[k].toNat : Int) != 126) = false := by rw [hc]; rfl
        have q1 : ((p[k].toNat : Int) == 126) = true := by rw [hc]; rfl
        by_cases hend : k + 1 = p.length
        · have e1 : ((k : Int) + 1 == (p.length : Int)) = true := by rw [beq_iff_eq]; omega
          have e2 : (k : Int) + 1 = (p.length : Int) := by omega
          have F : Hid (wholeP p = false) := hidI (by
            rw [HA.out, hdr, hc, hend, List.drop_length]; rfl)
          clear hc hend hdr
          go_wp2_with fail
          go_ret
          exact ⟨by rw [F.out]; rfl, rfl⟩
        · have hlt2 : k + 1 < p.length := by omega
          have e1 : ((k : Int) + 1 == (p.length : Int)) = false := by rw [beq_eq_false_iff_ne]; omega
          have e2 : ¬ ((k : Int) + 1 = (p.length : Int)) := by omega
          have hsz2 : k + 1 < (ByteArray.mk p.toArray).size := by simpa [ByteArray.size] using hlt2
          have hget2 : (ByteArray.mk p.toArray)[k + 1] = p[k + 1] := rfl
          have hdr2 : p.drop (k + 1) = p[k + 1] :: p.drop (k + 1 + 1) := List.drop_eq_getElem_cons hlt2
          have hb2 : (p[k + 1].toNat : Int) < 256 := by have := p[k + 1].toNat_lt; omega
          by_cases h48 : p[k + 1] = 48
          · have m1 : ((p[k + 1].toNat : Int) != 48) = false := by rw [h48]; rfl
            have m2 : ((p[k + 1].toNat : Int) == 48) = true := by rw [h48]; rfl
            have F : Hid (wholeP p = wholeP (p.drop (k + 1))) := hidI (by
              rw [HA.out, hdr, hc, hdr2, h48, wholeP]; simp)
            clear hc h48 hdr hdr2 hend
            go_wp2_with fail
            go_round
            case rel => exact ⟨k + 1, by omega, by go_num, F⟩
            case measure => simp [intOf]; omega
          · have m1 : ((p[k + 1].toNat : Int) != 48) = true := by
              have : p[k + 1].toNat ≠ 48 := fun e => h48 (UInt8.toNat_inj.1 e)
              simp only [bne_iff_ne, ne_eq]; omega
            have m2 : ((p[k + 1].toNat : Int) == 48) = false := by
              have : p[k + 1].toNat ≠ 48 := fun e => h48 (UInt8.toNat_inj.1 e)
              rw [beq_eq_false_iff_ne]; omega
            by_cases h49 : p[k + 1] = 49
            · have m3 : ((p[k + 1].toNat : Int) != 49) = false := by rw [h49]; rfl
              have m4 : ((p[k + 1].toNat : Int) == 49) = true := by rw [h49]; rfl
              have F : Hid (wholeP p = wholeP (p.drop (k + 1))) := hidI (by
                rw [HA.out, hdr, hc, hdr2, h49, wholeP]; simp)
              clear hc h48 h49 hdr hdr2 hend
              go_wp2_with fail
              go_round
              case rel => exact ⟨k + 1, by omega, by go_num, F⟩
              case measure => simp [intOf]; omega
            · have m3 : ((p[k + 1].toNat : Int) != 49) = true := by
                have : p[k + 1].toNat ≠ 49 := fun e => h49 (UInt8.toNat_inj.1 e)
                simp only [bne_iff_ne, ne_eq]; omega
              have m4 : ((p[k + 1].toNat : Int) == 49) = false := by
                have : p[k + 1].toNat ≠ 49 := fun e => h49 (UInt8.toNat_inj.1 e)
                rw [beq_eq_false_iff_ne]; omega
              have F : Hid (wholeP p = false) := hidI (by
                rw [HA.out, hdr, hc, hdr2, wholeP]; simp [h48, h49])
              clear hc h48 h49 hdr hdr2 hend
              go_wp2_with fail
              go_ret
              exact ⟨by rw [F.out]; rfl, rfl⟩
      · have n1 : ((p[k].toNat : Int) != 126) = true := by
          have : p[k].toNat ≠ 126 := fun e => hc (UInt8.toNat_inj.1 e)
          simp only [bne_iff_ne, ne_eq]; omega
        have q1 : ((p[k].toNat : Int) == 126) = false := by
          have : p[k].toNat ≠ 126 := fun e => hc (UInt8.toNat_inj.1 e)
          rw [beq_eq_false_iff_ne]; omega
        have F : Hid (wholeP p = wholeP (p.drop (k + 1))) := hidI (by rw [HA.out, hdr, whole_cons _ _ hc])
        clear hc hdr
        go_wp2_with fail
        go_round
        case rel => exact ⟨k + 1, by omega, by go_num, F⟩
        case measure => simp [intOf]; omega
    · have hke : k = p.length := by omega
      subst hke
      have F : Hid (wholeP p = true) := hidI (by rw [HA.out, List.drop_length]; rfl)
      go_wp2_with fail
      go_ret
      exact ⟨by rw [F.out]; rfl, rfl⟩
end Go.Proofs.YtmdemcjmcnfjmaaGreatDoor

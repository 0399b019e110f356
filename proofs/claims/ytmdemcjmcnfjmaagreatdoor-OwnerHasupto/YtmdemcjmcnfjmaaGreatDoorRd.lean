/- What coded and escaped of json's reader do. -/
import Derived.Test.YtmdemcjmcnfjmaaGreatDoorRc
set_option linter.unusedSimpArgs false
set_option linter.unusedVariables false
namespace Go.Proofs.YtmdemcjmcnfjmaaGreatDoor
open Go.RowKit

theorem digsS_step {st st1 st2 : Option (List UInt8)} {j n d : Nat} (h4 : j < 4) (h : st.bind (digsS 4 0) = st1.bind (digsS (4 - j) n)) (hd : st1.bind digS = st2.map (fun l => (d, l))) :
    st.bind (digsS 4 0) = st2.bind (digsS (4 - (j + 1)) (n * 16 + d)) := by
  rw [h]
  have e : 4 - j = (4 - (j + 1)) + 1 := by omega
  rw [e]
  cases st1 with
  | none => cases st2 with
    | none => rfl
    | some l => cases hd
  | some l =>
    show digsS (4 - (j + 1) + 1) n l = _
    rw [digsS]
    have hd' : digS l = st2.map (fun l => (d, l)) := hd
    rw [hd']
    cases st2 <;> rfl
theorem codedS_of {st st1 : Option (List UInt8)} {n : Nat} (h : st.bind (digsS 4 0) = st1.bind (digsS 0 n)) :
    st.bind codedS = st1.bind fun l => if n < 128 then some (n.toUInt8, l) else none := by
  cases st with
  | none => cases st1 with
    | none => rfl
    | some l => cases h
  | some l =>
    have h' : digsS 4 0 l = st1.bind (digsS 0 n) := h
    show codedS l = _
    rw [codedS, h']
    cases st1 <;> rfl

set_option maxRecDepth 100000 in
set_option maxHeartbeats 400000 in
theorem coded_st (w : World) (b : Nat) (s : ByteArray) (st : Option (List UInt8)) (h : RdSt w b s st) :
    Calls Tryz.prog 151 #[.pointer (some ⟨b, 0, none⟩)] w fun e w' => ∃ (c : UInt8) (st' : Option (List UInt8)), e = .returned (.int .u8 c.toNat) ∧ st.bind codedS = st'.map (fun l => (c, l)) ∧ RdSt w' b s st' ∧ w.grownBy w' (some b) := by
  have H := hidI h
  clear h
  go_enter Tryz.func151, Tryz.ntmps151
  go_wp2_with fail
  go_loopg [3, 4] 4 (fun k n i wr => ∃ (j m : Nat) (st1 : Option (List UInt8)), n = .int .i64 m ∧ i = .int .i64 j ∧ j ≤ 4 ∧ k = 4 - j ∧ m < 16 ^ j ∧ st.bind (digsS 4 0) = st1.bind (digsS (4 - j) m) ∧ RdSt wr b s st1 ∧ w.grownBy wr (some b))
  case atStart => exact ⟨0, 0, st, rfl, rfl, by omega, rfl, by decide, rfl, H.out, gb_refl _ _⟩
  case round =>
    obtain ⟨j, m, st1, rfl, rfl, hj, hk, hm, hs, h1, hg⟩ := hrel
    have hm4 : m < 65536 := Nat.lt_of_lt_of_le hm (Nat.pow_le_pow_right (n := 16) (by omega) hj)
    have A : Hid (gk = 4 - j ∧ m < 16 ^ j ∧ st.bind (digsS 4 0) = st1.bind (digsS (4 - j) m) ∧ RdSt wr b s st1 ∧ w.grownBy wr (some b)) := ⟨hk, hm, hs, h1, hg⟩
    clear hk hm hs h1 hg
    by_cases hlt : j < 4
    · go_wp2_with fail
      refine (digit_st _ b s st1 (by exact A.out.2.2.2.1)).mono ?_
      rintro e w1 ⟨d, st2, rfl, hd, hs2, h2, hg2⟩
      have B : Hid (st1.bind digS = st2.map (fun l => (d, l)) ∧ RdSt w1 b s st2 ∧ wr.grownBy w1 (some b)) := ⟨hs2, h2, hg2⟩
      clear hs2 h2 hg2
      go_wp2_with fail
      obtain ⟨hk, hm, hs, h1, hg⟩ := A.out
      obtain ⟨hs2, h2, hg2⟩ := B.out
      go_roundg (4 - (j + 1))
      case measure => omega
      case rel =>
        refine ⟨j + 1, m * 16 + d, st2, by go_num, by go_num, by omega, rfl, ?_, digsS_step hlt hs hs2, h2, gb_trans hg hg2⟩
        rw [Nat.pow_succ]; omega
    · have hj4 : j = 4 := by omega
      subst hj4
      have hcs := hidI (codedS_of A.out.2.2.1)
      by_cases h128 : m < 128
      · go_wp2_with fail
        go_ret
        obtain ⟨hk, hm, hs, h1, hg⟩ := A.out
        refine ⟨m.toUInt8, st1, ?_, ?_, h1, hg⟩
        · have : m.toUInt8.toNat = m := by simp; omega
          rw [this]; rfl
        · rw [hcs.out]; cases st1 <;> simp [h128]
      · go_wp2_with fail
        refine (fail_st _ b s _ (by exact A.out.2.2.2.1)).mono ?_
        rintro e w2 ⟨rfl, h2, hg2⟩
        go_wp2_with fail
        go_ret
        obtain ⟨hk, hm, hs, h1, hg⟩ := A.out
        refine ⟨0, none, rfl, ?_, h2, gb_trans hg hg2⟩
        rw [hcs.out]; cases st1 <;> simp [h128]

theorem escS_next {st st1 : Option (List UInt8)} {c : UInt8} (hs : st.bind nextB = st1.map (fun l => (c, l))) :
    st.bind escS = st1.bind fun l => if c = 117 then codedS l else if c = 47 then some (47, l) else (escB c).map fun x => (x, l) := by
  rw [← nextS_map (fun c l => if c = 117 then codedS l else if c = 47 then some (47, l) else (escB c).map fun x => (x, l)) hs]
  cases st with
  | none => rfl
  | some l => cases l <;> rfl
theorem u8_back (c : UInt8) : (c.toNat : Int).toNat.toUInt8 = c := by simp
theorem u8_ne {c d : UInt8} {m : Int} (hm : m = (d.toNat : Int)) (h : c ≠ d) : ((c.toNat : Int) == m) = false := by
  rw [beq_eq_false_iff_ne, hm]; intro e; exact h (UInt8.toNat_inj.1 (by omega))
theorem let_index (c : UInt8) : escB c = none → Lib.indexByte [34, 92, 98, 102, 110, 114, 116] c = -1 :=
  u8_all (p := fun c => escB c = none → Lib.indexByte [34, 92, 98, 102, 110, 114, 116] c = -1) (by decide +kernel) c
theorem escB_cases (c : UInt8) : escB c = none ∨ c = 34 ∨ c = 92 ∨ c = 98 ∨ c = 102 ∨ c = 110 ∨ c = 114 ∨ c = 116 :=
  u8_all (p := fun c => escB c = none ∨ c = 34 ∨ c = 92 ∨ c = 98 ∨ c = 102 ∨ c = 110 ∨ c = 114 ∨ c = 116) (by decide +kernel) c

set_option maxRecDepth 100000 in
set_option maxHeartbeats 1000000 in
theorem escaped_st (w : World) (b : Nat) (s : ByteArray) (st : Option (List UInt8)) (h : RdSt w b s st) :
    Calls Tryz.prog 132 #[.pointer (some ⟨b, 0, none⟩)] w fun e w' => ∃ (c : UInt8) (st' : Option (List UInt8)), e = .returned (.int .u8 c.toNat) ∧ st.bind escS = st'.map (fun l => (c, l)) ∧ RdSt w' b s st' ∧ w.grownBy w' (some b) := by
  have H := hidI h
  clear h
  go_enter Tryz.func132, Tryz.ntmps132
  go_wp2_with fail
  refine (next_st _ b s st (by exact H.out)).mono ?_
  rintro e w1 ⟨c, st1, rfl, hs, h0, h1, hg1⟩
  have E := hidI (escS_next hs)
  have A : Hid (RdSt w1 b s st1 ∧ w.grownBy w1 (some b)) := ⟨h1, hg1⟩
  clear hs h0 h1 hg1
  by_cases c1 : c = 117
  · subst c1
    go_wp2_with fail
    refine (coded_st _ b s st1 (by exact A.out.1)).mono ?_
    rintro e w2 ⟨x, st2, rfl, hs2, h2, hg2⟩
    have B : Hid (st1.bind codedS = st2.map (fun l => (x, l)) ∧ RdSt w2 b s st2 ∧ w1.grownBy w2 (some b)) := ⟨hs2, h2, hg2⟩
    clear hs2 h2 hg2
    go_wp2_with fail
    go_ret
    obtain ⟨hs2, h2, hg2⟩ := B.out
    exact ⟨x, st2, rfl, by rw [E.out, ← hs2]; rfl, h2, gb_trans A.out.2 hg2⟩
  have n1 := u8_ne (m := 117) rfl c1
  by_cases c2 : c = 47
  · subst c2
    go_wp2_with fail
    go_ret
    exact ⟨47, st1, rfl, by rw [E.out]; cases st1 <;> rfl, A.out.1, A.out.2⟩
  have n2 := u8_ne (m := 47) rfl c2
  have E2 : Hid (st.bind escS = st1.bind fun l => (escB c).map fun x => (x, l)) := by
    have e := E.out
    rw [e]
    cases st1 with
    | none => rfl
    | some l => show (if c = 117 then _ else _) = _; rw [if_neg c1, if_neg c2]; rfl
  clear E c1 c2
  rcases escB_cases c with hn | rfl | rfl | rfl | rfl | rfl | rfl | rfl
  · have L := hidI (let_index c hn)
    rw [hn] at E2
    clear hn
    go_wp2_with fail
    refine (idx_at _ _ (-1) _ (by rw [u8_back]; exact L.out)).mono ?_
    rintro e w2 ⟨rfl, rfl⟩
    go_wp2_with fail
    refine (fail_st _ b s _ (by exact A.out.1)).mono ?_
    rintro e w2 ⟨rfl, h2, hg2⟩
    go_wp2_with fail
    go_ret
    exact ⟨0, none, rfl, by rw [E2.out]; cases st1 <;> rfl, h2, gb_trans A.out.2 hg2⟩
  · clear n1 n2
    go_wp2_with fail
    refine (idx_at _ _ 0 _ (by rfl)).mono ?_
    rintro e w2 ⟨rfl, rfl⟩
    go_wp2_with fail
    go_ret
    exact ⟨34, st1, rfl, by rw [E2.out]; cases st1 <;> rfl, A.out.1, A.out.2⟩
  · clear n1 n2
    go_wp2_with fail
    refine (idx_at _ _ 1 _ (by rfl)).mono ?_
    rintro e w2 ⟨rfl, rfl⟩
    go_wp2_with fail
    go_ret
    exact ⟨92, st1, rfl, by rw [E2.out]; cases st1 <;> rfl, A.out.1, A.out.2⟩
  · clear n1 n2
    go_wp2_with fail
    refine (idx_at _ _ 2 _ (by rfl)).mono ?_
    rintro e w2 ⟨rfl, rfl⟩
    go_wp2_with fail
    go_ret
    exact ⟨8, st1, rfl, by rw [E2.out]; cases st1 <;> rfl, A.out.1, A.out.2⟩
  · clear n1 n2
    go_wp2_with fail
    refine (idx_at _ _ 3 _ (by rfl)).mono ?_
    rintro e w2 ⟨rfl, rfl⟩
    go_wp2_with fail
    go_ret
    exact ⟨12, st1, rfl, by rw [E2.out]; cases st1 <;> rfl, A.out.1, A.out.2⟩
  · clear n1 n2
    go_wp2_with fail
    refine (idx_at _ _ 4 _ (by rfl)).mono ?_
    rintro e w2 ⟨rfl, rfl⟩
    go_wp2_with fail
    go_ret
    exact ⟨10, st1, rfl, by rw [E2.out]; cases st1 <;> rfl, A.out.1, A.out.2⟩
  · clear n1 n2
    go_wp2_with fail
    refine (idx_at _ _ 5 _ (by rfl)).mono ?_
    rintro e w2 ⟨rfl, rfl⟩
    go_wp2_with fail
    go_ret
    exact ⟨13, st1, rfl, by rw [E2.out]; cases st1 <;> rfl, A.out.1, A.out.2⟩
  · clear n1 n2
    go_wp2_with fail
    refine (idx_at _ _ 6 _ (by rfl)).mono ?_
    rintro e w2 ⟨rfl, rfl⟩
    go_wp2_with fail
    go_ret
    exact ⟨9, st1, rfl, by rw [E2.out]; cases st1 <;> rfl, A.out.1, A.out.2⟩
end Go.Proofs.YtmdemcjmcnfjmaaGreatDoor

/- What need, digit, coded and escaped of json's reader do. -/
import Derived.Test.YtmdemcjmcnfjmaaGreatDoorRb
set_option linter.unusedSimpArgs false
set_option linter.unusedVariables false
namespace Go.Proofs.YtmdemcjmcnfjmaaGreatDoor
open Go.RowKit

/- A reader that has failed (none), or to which l is still to be read. -/
def RdSt (w : World) (b : Nat) (s : ByteArray) (st : Option (List UInt8)) : Prop := RdAt w b s (st.getD []) st.isNone

theorem RdSt.of_heap {w w' : World} {b : Nat} {s : ByteArray} {st : Option (List UInt8)} (h : RdSt w b s st) (e : w'.heap[b]? = w.heap[b]?) : RdSt w' b s st := RdAt.of_heap h e
theorem RdSt.lt {w : World} {b : Nat} {s : ByteArray} {st : Option (List UInt8)} (h : RdSt w b s st) : b < w.heap.size := RdAt.lt h
theorem RdSt.len {w : World} {b : Nat} {s : ByteArray} {l : List UInt8} (h : RdSt w b s (some l)) : l.length ≤ s.size ∧ s.size ≤ 2000 := RdAt.len h
theorem RdSt.grown {a w : World} {b : Nat} {s : ByteArray} {st : Option (List UInt8)} {r : Option Nat} (h : RdSt a b s st) (hg : a.grownBy w r) (hr : some b ≠ r) : RdSt w b s st := h.of_heap (hg.block b h.lt hr)
theorem gb_own {a w w' : World} {b : Nat} {row : Option Nat} (h : a.grownBy w (some b)) (hg : w.grownBy w' row) (hr : ∀ k, row = some k → a.heap.size ≤ k) : a.grownBy w' (some b) :=
  ⟨hg.os.trans h.os, hg.tape.trans h.tape, hg.output.trans h.output, Nat.le_trans h.size hg.size, fun i hi hb => (hg.block i (Nat.lt_of_lt_of_le hi h.size) (fun e => by have := hr i e.symm; omega)).trans (h.block i hi hb)⟩

theorem fail_st (w : World) (b : Nat) (s : ByteArray) (st : Option (List UInt8)) (h : RdSt w b s st) :
    Calls Tryz.prog 129 #[.pointer (some ⟨b, 0, none⟩)] w fun e w' => e = .returned (.tuple #[]) ∧ RdSt w' b s none ∧ w.grownBy w' (some b) :=
  fail_at w b s _ _ h

/- A byte, and what is left. -/
def nextB : List UInt8 → Option (UInt8 × List UInt8)
  | [] => none
  | c :: l => some (c, l)

theorem next_st (w : World) (b : Nat) (s : ByteArray) (st : Option (List UInt8)) (h : RdSt w b s st) :
    Calls Tryz.prog 131 #[.pointer (some ⟨b, 0, none⟩)] w fun e w' => ∃ (c : UInt8) (st' : Option (List UInt8)), e = .returned (.int .u8 c.toNat) ∧ st.bind nextB = st'.map (fun l => (c, l)) ∧ (st' = none → c = 0) ∧ RdSt w' b s st' ∧ w.grownBy w' (some b) := by
  match st, h with
  | none, h => exact (next_nil w b s true h).mono fun e w' ⟨he, hr, hg⟩ => ⟨0, none, he, rfl, fun _ => rfl, hr, hg⟩
  | some [], h => exact (next_nil w b s false h).mono fun e w' ⟨he, hr, hg⟩ => ⟨0, none, he, rfl, fun _ => rfl, hr, hg⟩
  | some (c :: l), h => exact (next_cons w b s c l false h).mono fun e w' ⟨he, hr, hg⟩ => ⟨c, some l, he, rfl, nofun, hr, hg⟩

theorem mark_st (w : World) (b : Nat) (s : ByteArray) (st : Option (List UInt8)) (m : Int) (c : UInt8) (hm : m = (c.toNat : Int)) (hc0 : c ≠ 0) (h : RdSt w b s st) :
    Calls Tryz.prog 133 #[.pointer (some ⟨b, 0, none⟩), .int .u8 m] w fun e w' => e = .returned (.bool (st.bind (markS c)).isSome) ∧
      RdSt w' b s (if (st.bind (markS c)).isSome then st.bind (markS c) else st.map (List.dropWhile isSp)) ∧ w.grownBy w' (some b) := by
  refine (mark_at w b s _ _ m c hm hc0 h).mono fun e w' ⟨he, hr, hg⟩ => ⟨?_, ?_, hg⟩
  · cases st with
    | none => exact he
    | some l => exact he
  · cases st with
    | none => exact hr
    | some l =>
      cases hk : markS c l with
      | none => simpa [RdSt, hk] using hr
      | some r => simpa [RdSt, hk] using hr

set_option maxHeartbeats 400000 in
theorem need_st (w : World) (b : Nat) (s : ByteArray) (st : Option (List UInt8)) (m : Int) (c : UInt8) (hm : m = (c.toNat : Int)) (hc0 : c ≠ 0) (h : RdSt w b s st) :
    Calls Tryz.prog 130 #[.pointer (some ⟨b, 0, none⟩), .int .u8 m] w fun e w' => e = .returned (.tuple #[]) ∧ RdSt w' b s (st.bind (markS c)) ∧ w.grownBy w' (some b) := by
  have H := hidI h
  have M := hidI hm
  clear h hm
  go_enter Tryz.func130, Tryz.ntmps130
  go_wp2_with fail
  refine (mark_st _ b s st m c M.out hc0 (by exact H.out)).mono ?_
  rintro e w1 ⟨rfl, h1, hg1⟩
  have H1 := hidI h1
  have G1 := hidI hg1
  clear h1 hg1
  cases hk : st.bind (markS c) with
  | none =>
    rw [hk] at H1
    go_wp2_with fail
    refine (fail_st _ b s _ (by exact H1.out)).mono ?_
    rintro e w2 ⟨rfl, h2, hg2⟩
    go_wp2_with fail
    go_end0
    exact ⟨rfl, by rw [hk]; exact h2, gb_trans G1.out hg2⟩
  | some r =>
    rw [hk] at H1
    go_wp2_with fail
    go_end0
    exact ⟨rfl, by rw [hk]; exact H1.out, G1.out⟩

theorem u8_all {p : UInt8 → Prop} (h : ∀ n : Fin 256, p (UInt8.ofNat n.val)) (c : UInt8) : p c := by
  have := h ⟨c.toNat, c.toNat_lt⟩
  simpa using this
theorem hex_index (c : UInt8) : Lib.indexByte [48, 49, 50, 51, 52, 53, 54, 55, 56, 57, 97, 98, 99, 100, 101, 102] (if 65 ≤ c.toNat ∧ c.toNat ≤ 70 then c + 32 else c) = (match hexv c with | some d => (d : Int) | none => -1) :=
  u8_all (p := fun c => Lib.indexByte [48, 49, 50, 51, 52, 53, 54, 55, 56, 57, 97, 98, 99, 100, 101, 102] (if 65 ≤ c.toNat ∧ c.toNat ≤ 70 then c + 32 else c) = (match hexv c with | some d => (d : Int) | none => -1)) (by decide +kernel) c
theorem hexv_lt (c : UInt8) (d : Nat) (h : hexv c = some d) : d < 16 := by
  simp only [hexv] at h
  split at h
  · cases h; omega
  · split at h
    · cases h; omega
    · split at h
      · cases h; omega
      · cases h
theorem idx_at (t : ByteArray) (m r : Int) (w : World) (h : Lib.indexByte t.data.toList m.toNat.toUInt8 = r) :
    Calls Tryz.prog 98 #[.string t, .int .u8 m] w fun e w' => e = .returned (.int .i64 r) ∧ w' = w := by
  subst h; exact Tryz.strings_IndexByte t m w
theorem hex_idx (c : UInt8) (m : Int) (hm : m = if 65 ≤ c.toNat ∧ c.toNat ≤ 70 then (c.toNat : Int) + 32 else c.toNat) :
    Lib.indexByte [48, 49, 50, 51, 52, 53, 54, 55, 56, 57, 97, 98, 99, 100, 101, 102] m.toNat.toUInt8 = (match hexv c with | some d => (d : Int) | none => -1) := by
  rw [← hex_index c]
  congr 1
  subst hm
  split
  · rename_i h
    apply UInt8.toNat_inj.1
    rw [UInt8.toNat_add]
    simp; omega
  · simp
theorem nextS_map {st st1 : Option (List UInt8)} {c : UInt8} {α : Type} (f : UInt8 → List UInt8 → Option α) (hs : st.bind nextB = st1.map (fun l => (c, l))) :
    (st.bind fun l => match l with | [] => none | c :: l => f c l) = st1.bind (f c) := by
  match st, st1, hs with
  | none, none, _ => rfl
  | some [], none, _ => rfl
  | some (x :: r), some l, hs => simp [nextB] at hs; obtain ⟨rfl, rfl⟩ := hs; rfl
theorem digS_next {st st1 : Option (List UInt8)} {c : UInt8} (hs : st.bind nextB = st1.map (fun l => (c, l))) :
    st.bind digS = st1.bind fun l => (hexv c).map fun d => (d, l) := by
  rw [← nextS_map (fun c l => (hexv c).map fun d => (d, l)) hs]
  cases st with
  | none => rfl
  | some l => cases l <;> rfl

set_option maxRecDepth 100000 in
set_option maxHeartbeats 400000 in
theorem digit_st (w : World) (b : Nat) (s : ByteArray) (st : Option (List UInt8)) (h : RdSt w b s st) :
    Calls Tryz.prog 162 #[.pointer (some ⟨b, 0, none⟩)] w fun e w' => ∃ (d : Nat) (st' : Option (List UInt8)), e = .returned (.int .i64 d) ∧ d < 16 ∧ st.bind digS = st'.map (fun l => (d, l)) ∧ RdSt w' b s st' ∧ w.grownBy w' (some b) := by
  have H := hidI h
  clear h
  go_enter Tryz.func162, Tryz.ntmps162
  go_wp2_with fail
  refine (next_st _ b s st (by exact H.out)).mono ?_
  rintro e w1 ⟨c, st1, rfl, hs, h0, h1, hg1⟩
  have hD := hidI (digS_next hs)
  have A : Hid ((st1 = none → c = 0) ∧ RdSt w1 b s st1 ∧ w.grownBy w1 (some b)) := ⟨h0, h1, hg1⟩
  clear hs h0 h1 hg1
  have hc256 : (c.toNat : Int) < 256 := by have := c.toNat_lt; omega
  have hidx := hidI (hex_idx c)
  cases hx : hexv c with
  | some d =>
    have hd := hexv_lt c d hx
    have hd0 : 0 ≤ (d : Int) := by omega
    rw [hx] at hidx hD
    have fin : Hid (∃ (d' : Nat) (st' : Option (List UInt8)), Ending.returned (Value.int .i64 d) = .returned (.int .i64 d') ∧ d' < 16 ∧ st.bind digS = st'.map (fun l => (d', l)) ∧ RdSt w1 b s st' ∧ w.grownBy w1 (some b)) := by
      refine ⟨d, st1, rfl, hd, ?_, A.out.2.1, A.out.2.2⟩
      rw [hD.out]; cases st1 <;> rfl
    clear hx
    by_cases hup : 65 ≤ c.toNat ∧ c.toNat ≤ 70
    · have hu1 : 65 ≤ (c.toNat : Int) := by omega
      have hu2 : (c.toNat : Int) ≤ 70 := by omega
      go_wp2_with fail
      refine (idx_at _ _ (d : Int) _ (by exact hidx.out _ (by rw [if_pos hup]))).mono ?_
      rintro e w2 ⟨rfl, rfl⟩
      go_wp2_with fail
      go_ret
      exact fin.out
    · have hu1 : ¬ (65 ≤ (c.toNat : Int) ∧ (c.toNat : Int) ≤ 70) := by omega
      by_cases hu2 : 65 ≤ (c.toNat : Int)
      · have hu3 : ¬ ((c.toNat : Int) ≤ 70) := by omega
        go_wp2_with fail
        refine (idx_at _ _ (d : Int) _ (by exact hidx.out _ (by rw [if_neg hup]))).mono ?_
        rintro e w2 ⟨rfl, rfl⟩
        go_wp2_with fail
        go_ret
        exact fin.out
      · go_wp2_with fail
        refine (idx_at _ _ (d : Int) _ (by exact hidx.out _ (by rw [if_neg hup]))).mono ?_
        rintro e w2 ⟨rfl, rfl⟩
        go_wp2_with fail
        go_ret
        exact fin.out
  | none =>
    rw [hx] at hidx hD
    have fin : Hid (∀ w2, RdSt w2 b s none → w1.grownBy w2 (some b) → ∃ (d' : Nat) (st' : Option (List UInt8)), Ending.returned (Value.int .i64 0) = .returned (.int .i64 d') ∧ d' < 16 ∧ st.bind digS = st'.map (fun l => (d', l)) ∧ RdSt w2 b s st' ∧ w.grownBy w2 (some b)) := by
      intro w2 h2 hg2
      refine ⟨0, none, rfl, by omega, ?_, h2, gb_trans A.out.2.2 hg2⟩
      rw [hD.out]; cases st1 <;> rfl
    clear hx
    by_cases hup : 65 ≤ c.toNat ∧ c.toNat ≤ 70
    · have hu1 : 65 ≤ (c.toNat : Int) := by omega
      have hu2 : (c.toNat : Int) ≤ 70 := by omega
      go_wp2_with fail
      refine (idx_at _ _ (-1) _ (by exact hidx.out _ (by rw [if_pos hup]))).mono ?_
      rintro e w2 ⟨rfl, rfl⟩
      go_wp2_with fail
      refine (fail_st _ b s _ (by exact A.out.2.1)).mono ?_
      rintro e w2 ⟨rfl, h2, hg2⟩
      go_wp2_with fail
      go_ret
      exact fin.out _ h2 hg2
    · have hu1 : ¬ (65 ≤ (c.toNat : Int) ∧ (c.toNat : Int) ≤ 70) := by omega
      by_cases hu2 : 65 ≤ (c.toNat : Int)
      · have hu3 : ¬ ((c.toNat : Int) ≤ 70) := by omega
        go_wp2_with fail
        refine (idx_at _ _ (-1) _ (by exact hidx.out _ (by rw [if_neg hup]))).mono ?_
        rintro e w2 ⟨rfl, rfl⟩
        go_wp2_with fail
        refine (fail_st _ b s _ (by exact A.out.2.1)).mono ?_
        rintro e w2 ⟨rfl, h2, hg2⟩
        go_wp2_with fail
        go_ret
        exact fin.out _ h2 hg2
      · go_wp2_with fail
        refine (idx_at _ _ (-1) _ (by exact hidx.out _ (by rw [if_neg hup]))).mono ?_
        rintro e w2 ⟨rfl, rfl⟩
        go_wp2_with fail
        refine (fail_st _ b s _ (by exact A.out.2.1)).mono ?_
        rintro e w2 ⟨rfl, h2, hg2⟩
        go_wp2_with fail
        go_ret
        exact fin.out _ h2 hg2
end Go.Proofs.YtmdemcjmcnfjmaaGreatDoor

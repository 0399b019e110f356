/- What appendByte and appendQuoted of package json do. -/
import Derived.Test.YtfbddgpekbhpfacGreatDoorQa
set_option linter.unusedSimpArgs false
set_option linter.unusedVariables false
namespace Go.Proofs.YtfbddgpekbhpfacGreatDoor
open Go.RowKit

theorem ba_get {l : List UInt8} {i : Nat} {d : UInt8} (hd : l[i]? = some d) (h : i < (ByteArray.mk l.toArray).size) : (ByteArray.mk l.toArray)[i] = d := by
  obtain ⟨h1, h2⟩ := List.getElem?_eq_some_iff.1 hd
  rw [← h2]; rfl

theorem step_bytesD {w : World} {ops : Array Oper} {o : Oper} {a : Act} {K : Act → World → Prop} {Q : Exit → Act → World → Prop} {E : Prop} (hgd : o.guard = none) (s x : Operand)
    (ho : o.op = .call { callee := .builtin .append, args := #[s, x], argTypes := #[50, 50] }) (B : Nat) (v : Value) (acc news : List UInt8) (cs : Array Value) (hcs : cs.toList = Lib.byteCells news) (m : Nat) (hm : m = news.length) (hs : a.eval s = v)
    (hx : a.eval x = .slice (some ⟨w.heap.size, 0, none⟩) m m) (hown : BRow w B v acc) (hB : B ≤ w.heap.size) (hl : acc.length ≤ 1000000000) (hn : m ≤ 1000)
    (hK : ∀ v' w', BRow w' B v' (acc ++ news) → Fr B w w' → K (a.put o.dst v') w') : if Region.wanted o (yielded ops a.tmps) = true then Oper.wp Tryz.prog o a (w.alloc (.cells cs 5)).drew K Q else E :=
  step_bytes (w := w.drew) hgd s x ho B v acc news cs hcs m hm hs hx hown hB hl hn fun v' w' h1 h2 => hK v' w' h1 ⟨⟨h2.1.os, h2.1.tape, h2.1.output, h2.1.size, h2.1.block⟩, h2.2⟩

set_option maxRecDepth 100000 in
set_option maxHeartbeats 2000000 in
theorem appendByte_at (w : World) (B : Nat) (v : Value) (acc : List UInt8) (c : UInt8) (h : BRow w B v acc) (hB : B ≤ w.heap.size) (hl : acc.length ≤ 1000000000) :
    Calls Tryz.prog 72 #[v, .int .u8 c.toNat] w fun e w' => ∃ v', e = .returned v' ∧ BRow w' B v' (acc ++ byteS c) ∧ Fr B w w' := by
  have H := hidI h
  clear h
  have hc : ((c.toNat : Int).toNat).toUInt8 = c := by simp
  by_cases hm : c ∈ markedL
  · obtain ⟨i, hi, e1, d, hd, e2⟩ := byteS_marked c hm
    have E2 := hidI e2
    clear e2 hm
    have e1' : Lib.indexByte (ByteArray.mk #[34, 92, 8, 12, 10, 13, 9]).data.toList ((c.toNat : Int).toNat).toUInt8 = i := by rw [hc]; exact e1
    have hi7 : i < (ByteArray.mk #[34, 92, 98, 102, 110, 114, 116]).size := hi
    have hd' := ba_get hd hi7
    clear hd e1
    go_enter Tryz.func72, Tryz.ntmps72
    go_wp2_with fail
    refine (Tryz.strings_IndexByte _ _ _).mono ?_
    rintro e w1 ⟨rfl, rfl⟩
    rw [e1']
    clear e1'
    go_wp2_with (at_builtin; go_must (refine append_bytes rfl _ _ rfl B v acc [92, d] _ (by simp [Lib.byteCells, hd']) 2 rfl rfl rfl H.out hB hl (by decide) ?_); intro v4 w4 hown4 hgrow4; refine Hid.out ?_)
    refine hidI ?_
    have D := hidI (And.intro hown4 hgrow4)
    clear hown4 hgrow4
    go_wp2_with fail
    go_ret
    exact ⟨v4, rfl, by rw [E2.out]; exact D.out.1, D.out.2⟩
  · have e1' : Lib.indexByte (ByteArray.mk #[34, 92, 8, 12, 10, 13, 9]).data.toList ((c.toNat : Int).toNat).toUInt8 = -1 := by rw [hc]; exact idx_none c _ hm
    have E2 := hidI (byteS_rest c hm)
    clear hm
    have hlt : c.toNat < 256 := c.toNat_lt
    have fin : Hid (∀ (w' : World) (v' : Value) (news : List UInt8), (c.toNat < 32 ∨ c.toNat = 127) → news = [92, 117, 48, 48, hexd (c.toNat / 16), hexd (c.toNat % 16)] → BRow w' B v' (acc ++ news) → BRow w' B v' (acc ++ byteS c)) := fun w' v' news h1 h2 h3 => by rw [E2.out, if_pos h1, ← h2]; exact h3
    obtain ⟨q, hq⟩ : ∃ q, q = c.toNat / 16 := ⟨_, rfl⟩
    obtain ⟨r, hr⟩ : ∃ r, r = c.toNat % 16 := ⟨_, rfl⟩
    have q1 : IntKind.u8.wrap ((c.toNat : Int) / 16) = (q : Int) := by
      rw [hq]
      simp only [IntKind.wrap, IntKind.signed, IntKind.bits]
      simp
      omega
    have r1 : ((c.toNat : Int)).tmod 16 = (r : Int) := by rw [hr, Int.tmod_eq_emod_of_nonneg (by omega)]; omega
    have q6 : IntKind.u8.wrap (q : Int) = (q : Int) := by
      simp only [IntKind.wrap, IntKind.signed, IntKind.bits]
      simp
      omega
    have q5 : (c.toNat : Int) / 16 = (q : Int) := by omega
    have r5 : (c.toNat : Int) % 16 = (r : Int) := by omega
    have q2 : (q : Int) < 16 := by omega
    have r2 : (r : Int) < 16 := by omega
    have q3 : q < (ByteArray.mk #[48, 49, 50, 51, 52, 53, 54, 55, 56, 57, 97, 98, 99, 100, 101, 102]).size := by show q < 16; omega
    have r3 : r < (ByteArray.mk #[48, 49, 50, 51, 52, 53, 54, 55, 56, 57, 97, 98, 99, 100, 101, 102]).size := by show r < 16; omega
    have q4 : (ByteArray.mk #[48, 49, 50, 51, 52, 53, 54, 55, 56, 57, 97, 98, 99, 100, 101, 102])[q] = hexd q := ba_get (l := hexL) (by unfold hexd; rw [List.getD_eq_getElem?_getD, List.getElem?_eq_getElem (show q < hexL.length from q3)]; rfl) q3
    have r4 : (ByteArray.mk #[48, 49, 50, 51, 52, 53, 54, 55, 56, 57, 97, 98, 99, 100, 101, 102])[r] = hexd r := ba_get (l := hexL) (by unfold hexd; rw [List.getD_eq_getElem?_getD, List.getElem?_eq_getElem (show r < hexL.length from r3)]; rfl) r3
    have HQ := hidI hq
    have HR := hidI hr
    clear hq hr
    by_cases h2 : c.toNat < 32
    · have g1 : (c.toNat : Int) < 32 := by omega
      go_enter Tryz.func72, Tryz.ntmps72
      go_wp2_with fail
      refine (Tryz.strings_IndexByte _ _ _).mono ?_
      rintro e w1 ⟨rfl, rfl⟩
      rw [e1']
      clear e1'
      go_wp2_with fail
      go_region_law ((first | (refine step_bytesD (by rfl) _ _ (by rfl) B v acc [92, 117, 48, 48, hexd q, hexd r] _ (by simp [Lib.byteCells, q4, r4]) 6 (by rfl) (by rfl) (by rfl) (by exact H.out) (by exact hB) hl (by decide) ?_; intro v4 w4 hown4 hgrow4) | fail))
      all_goals
        have D := hidI (And.intro hown4 hgrow4)
        clear hown4 hgrow4
        go_wp2_with fail
        go_ret
        exact ⟨v4, rfl, fin.out _ _ _ (.inl h2) (by rw [HQ.out, HR.out]) D.out.1, D.out.2⟩
    · have g1 : ¬ (c.toNat : Int) < 32 := by omega
      by_cases h3 : c.toNat = 127
      · have hc127 : c = 127 := UInt8.toNat_inj.1 h3
        subst hc127
        clear fin HQ HR q1 r1 q2 r2 q3 r3 q4 r4 q5 q6 r5 e1' E2 hlt g1 h2 h3 hc
        show Calls Tryz.prog 72 #[v, .int .u8 127] w _
        have w7 : IntKind.u8.wrap 7 = 7 := by decide
        have x7 : (ByteArray.mk #[48, 49, 50, 51, 52, 53, 54, 55, 56, 57, 97, 98, 99, 100, 101, 102])[7]'(by decide) = 55 := ba_get (l := hexL) rfl _
        have x15 : (ByteArray.mk #[48, 49, 50, 51, 52, 53, 54, 55, 56, 57, 97, 98, 99, 100, 101, 102])[15]'(by decide) = 102 := ba_get (l := hexL) rfl _
        go_enter Tryz.func72, Tryz.ntmps72
        go_wp2_with fail
        refine (Tryz.strings_IndexByte _ _ _).mono ?_
        rintro e w1 ⟨rfl, rfl⟩
        rw [show Lib.indexByte (ByteArray.mk #[34, 92, 8, 12, 10, 13, 9]).data.toList (Int.toNat 127).toUInt8 = -1 from by decide]
        go_wp2_with fail
        go_region_law ((first | (refine step_bytesD (by rfl) _ _ (by rfl) B v acc [92, 117, 48, 48, 55, 102] _ (by simp [Lib.byteCells, x7, x15]) 6 (by rfl) (by rfl) (by rfl) (by exact H.out) (by exact hB) hl (by decide) ?_; intro v4 w4 hown4 hgrow4) | fail))
        all_goals
          have D := hidI (And.intro hown4 hgrow4)
          clear hown4 hgrow4
          go_wp2_with fail
          go_ret
          exact ⟨v4, rfl, D.out.1, D.out.2⟩
      · have g2 : ((c.toNat : Int) == 127) = false := by rw [beq_eq_false_iff_ne]; omega
        go_enter Tryz.func72, Tryz.ntmps72
        go_wp2_with fail
        refine (Tryz.strings_IndexByte _ _ _).mono ?_
        rintro e w1 ⟨rfl, rfl⟩
        rw [e1']
        clear e1'
        go_wp2_with (at_builtin; go_must (refine append_bytes rfl _ _ rfl B v acc [c] _ (by simp [Lib.byteCells]) 1 rfl rfl rfl H.out hB hl (by decide) ?_); intro v4 w4 hown4 hgrow4; refine Hid.out ?_)
        refine hidI ?_
        have D := hidI (And.intro hown4 hgrow4)
        clear hown4 hgrow4
        go_wp2_with fail
        go_ret
        exact ⟨v4, rfl, by rw [E2.out, if_neg (by omega)]; exact D.out.1, D.out.2⟩

def quoteS (s : List UInt8) : List UInt8 := 34 :: s.flatMap byteS ++ [34]
theorem flat_len (s : List UInt8) : (s.flatMap byteS).length ≤ 6 * s.length := by
  induction s with
  | nil => simp
  | cons c s ih => have := byteS_len c; simp only [List.flatMap_cons, List.length_append, List.length_cons]; omega
theorem take_step {α : Type} {l : List α} {k : Nat} {x : α} (h : l[k]? = some x) : l.take (k + 1) = l.take k ++ [x] := by
  rw [List.take_add_one, h]; rfl

set_option maxRecDepth 100000 in
set_option maxHeartbeats 2000000 in
theorem appendQuoted_at (w : World) (B : Nat) (v : Value) (acc s : List UInt8) (h : BRow w B v acc) (hB : B ≤ w.heap.size) (hl : acc.length ≤ 100000000) (hs : s.length ≤ 1000000) :
    Calls Tryz.prog 50 #[v, str s] w fun e w' => ∃ v', e = .returned v' ∧ BRow w' B v' (acc ++ quoteS s) ∧ Fr B w w' := by
  have H := hidI h
  clear h
  unfold str
  go_enter Tryz.func50, Tryz.ntmps50
  go_wp2_with (at_builtin; go_must (refine append_bytes rfl _ _ rfl B v acc [34] _ (by rfl) 1 rfl rfl rfl H.out hB (by omega) (by decide) ?_); intro v4 w4 hown4 hgrow4; refine Hid.out ?_)
  refine hidI ?_
  have D := hidI (And.intro hown4 hgrow4)
  clear hown4 hgrow4
  go_wp2_with fail
  go_loopg [0, 5] s.length (fun gk u i wr => ∃ (k : Nat), k ≤ s.length ∧ gk = s.length - k ∧ i = .int .i64 k ∧ BRow wr B u (acc ++ [34] ++ (s.take k).flatMap byteS) ∧ Fr B w wr)
  case atStart => exact ⟨0, Nat.zero_le _, rfl, rfl, by simpa using D.out.1, D.out.2⟩
  case round =>
    obtain ⟨k, hk, hgk, rfl, hrow, hbel⟩ := hrel
    have hlen : (acc ++ [34] ++ (s.take k).flatMap byteS).length ≤ 107000000 := by
      have := flat_len (s.take k)
      have h9 : (s.take k).length ≤ 1000000 := by rw [List.length_take]; omega
      simp only [List.length_append, List.length_cons, List.length_nil]; omega
    have A := hidI (And.intro hrow hbel)
    have hBr : B ≤ wr.heap.size := Nat.le_trans hB hbel.size
    clear hrow hbel
    by_cases hlt : k < s.length
    · have c1 : (k : Int) < (s.length : Int) := by omega
      have c2 : k < (ByteArray.mk s.toArray).size := by simpa [ByteArray.size] using hlt
      have hx : s[k]? = some s[k] := List.getElem?_eq_getElem hlt
      have c3 := ba_get hx c2
      go_wp2_with fail
      refine (appendByte_at _ B u0 _ s[k] A.out.1 hBr (by omega)).mono ?_
      rintro e w5 ⟨v5, rfl, hrow5, hbel5⟩
      have D5 := hidI (And.intro hrow5 hbel5)
      clear hrow5 hbel5
      go_wp2_with fail
      go_roundg (s.length - (k + 1))
      case measure => omega
      case rel => exact ⟨k + 1, hlt, rfl, rfl, by rw [take_step hx, List.flatMap_append, ← List.append_assoc]; simpa using D5.out.1, A.out.2.trans D5.out.2⟩
    · have c1 : ¬ (k : Int) < (s.length : Int) := by omega
      have hk' : k = s.length := by omega
      subst hk'
      go_wp2_with (at_builtin; go_must (refine append_bytes rfl _ _ rfl B u0 _ [34] _ (by rfl) 1 rfl rfl rfl A.out.1 hBr (by omega) (by decide) ?_); intro v5 w5 hown5 hgrow5; refine Hid.out ?_)
      refine hidI ?_
      have D5 := hidI (And.intro hown5 hgrow5)
      clear hown5 hgrow5
      go_wp2_with fail
      go_ret
      exact ⟨v5, rfl, by simpa [quoteS] using D5.out.1, A.out.2.trans D5.out.2⟩
end Go.Proofs.YtfbddgpekbhpfacGreatDoor

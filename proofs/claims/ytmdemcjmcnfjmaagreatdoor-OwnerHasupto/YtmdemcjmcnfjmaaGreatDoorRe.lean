/- What quoted of json's reader does. -/
import Derived.Test.YtmdemcjmcnfjmaaGreatDoorRd
import Derived.Laws.IdiomStrings
import Derived.Laws.BytesArg
set_option linter.unusedSimpArgs false
set_option linter.unusedVariables false
namespace Go.Proofs.YtmdemcjmcnfjmaaGreatDoor
open Go.RowKit

theorem infoByte : (Tryz.prog.info? 5).map (fun i => (i.zero, i.size, i.bytes)) = some (some (.int .u8 0), 1, 1) := by kernel_rfl

/- The steps that are still to come, of what is still to be read. -/
def togo : Option (List UInt8) → Nat
  | none => 0
  | some l => l.length + 1

def restS (acc : List UInt8) (st : Option (List UInt8)) : Option (List UInt8 × List UInt8) := st.bind fun l => bodyS (l.length + 1) acc l

theorem restS_quote (acc l : List UInt8) : restS acc (some (34 :: l)) = some (acc, l) := by simp [restS, bodyS]
theorem restS_plain (acc l : List UInt8) (c : UInt8) (h1 : c ≠ 34) (h2 : c ≠ 92) (h3 : ¬ (c.toNat < 32 ∨ 127 ≤ c.toNat)) : restS acc (some (c :: l)) = restS (acc ++ [c]) (some l) := by
  simp only [restS, Option.bind_some, bodyS, if_neg h1, if_neg h2, if_neg h3]
  exact bodyS_fuel _ _ _ _ (by simp) (by simp)
theorem restS_bad (acc l : List UInt8) (c : UInt8) (h1 : c ≠ 34) (h2 : c ≠ 92) (h3 : c.toNat < 32 ∨ 127 ≤ c.toNat) : restS acc (some (c :: l)) = none := by
  simp only [restS, Option.bind_some, bodyS, if_neg h1, if_neg h2, if_pos h3]
theorem restS_esc (acc l : List UInt8) (x : UInt8) (st : Option (List UInt8)) (h : (some l).bind escS = st.map (fun l => (x, l))) : restS acc (some (92 :: l)) = restS (acc ++ [x]) st := by
  have h' : escS l = st.map (fun l => (x, l)) := h
  have e34 : ¬ ((92 : UInt8) = 34) := by decide
  simp only [restS, Option.bind_some, bodyS, if_neg e34, if_true, h']
  cases st with
  | none => rfl
  | some r =>
    have hl := escS_len h'
    exact bodyS_fuel _ _ _ _ (by simp only at hl; simp; omega) (by simp)
theorem esc_togo {l : List UInt8} {x : UInt8} {st : Option (List UInt8)} (h : (some l).bind escS = st.map (fun l => (x, l))) : togo st < l.length + 1 := by
  have h' : escS l = st.map (fun l => (x, l)) := h
  cases st with
  | none => simp [togo]
  | some r => have hl := escS_len h'; simp only at hl; simp [togo]; omega

theorem byteCells_one (l : List UInt8) (c : UInt8) : Lib.byteCells l ++ [Value.int .u8 c.toNat] = Lib.byteCells (l ++ [c]) := by simp [Lib.byteCells]

theorem own_kept {a w w' : World} {b : Nat} {e : TypeId} {size : Nat} {v : Value} {n : Nat} {xs : List Value} (h : w.ownsRow a.heap.size e size v n xs) (hg : w.grownBy w' (some b)) (hb : b < a.heap.size) : w'.ownsRow a.heap.size e size v n xs := by
  refine h.kept hg ?_
  cases hv : v.ownBlock with
  | none => exact .inl rfl
  | some k =>
    right
    intro e
    cases e
    have := (h.lt b hv).1
    omega

/- One byte more, behind a row of bytes that the call has made. -/
theorem append_byte {w : World} {ops : Array Oper} {rest : List Oper} {o : Oper} {a : Act} {Q : Exit → Act → World → Prop} (hgd : o.guard = none) (s x : Operand)
    (ho : o.op = .call { callee := .builtin .append, args := #[s, x], argTypes := #[72, 72] }) (B : Nat) (v : Value) (acc : List UInt8) (c : UInt8) (hs : a.eval s = v)
    (hx : a.eval x = .slice (some ⟨w.heap.size, 0, none⟩) 1 1) (hown : w.ownsRow B 5 1 v acc.length (Lib.byteCells acc)) (hB : B ≤ w.heap.size) (hl : acc.length ≤ 1000000000)
    (hK : ∀ v' w', w'.ownsRow B 5 1 v' (acc ++ [c]).length (Lib.byteCells (acc ++ [c])) → w.grownBy w' v.ownBlock → wpList Tryz.prog ops Q rest (a.put o.dst v') w') :
    wpList Tryz.prog ops Q (o :: rest) a (w.alloc (.cells #[.int .u8 c.toNat] 5)) := by
  obtain ⟨i0, hi, hz0, hz1, hz2⟩ := info_parts infoByte
  refine wpList_append_own _ hgd s x 72 ho B 5 i0 (.int .u8 0) 1 1 Tryz.underlying72 hi hz0 hz1 hz2 rfl (by decide) v acc.length (Lib.byteCells acc) hs (hown.alloc _) ⟨w.heap.size, 0, none⟩ 1 1 [Value.int .u8 c.toNat] hx rfl
    (by intro j u' hj; match j, hj with | 0, hj => simp at hj; subst hj; simp [Addr.add]) (by intro u' hu'; simp at hu'; subst hu'; rfl) (by unfold maxLen; omega) (by omega) (by simp; omega) ?_
  intro v2 w2 hown2 hgrow _
  refine hK v2 w2 ?_ (gb_trans (World.grownBy_alloc w _ _) hgrow)
  rw [byteCells_one] at hown2
  simpa using hown2

/- What holds ahead of each round. -/
def QuotI (w : World) (b : Nat) (s : ByteArray) (T : Option (List UInt8 × List UInt8)) (k : Nat) (v : Value) (wr : World) : Prop :=
  ∃ (acc : List UInt8) (st : Option (List UInt8)), k = togo st ∧ acc.length + k ≤ 2002 ∧ restS acc st = T ∧ wr.ownsRow w.heap.size 5 1 v acc.length (Lib.byteCells acc) ∧ RdSt wr b s st ∧ w.grownBy wr (some b)

set_option maxRecDepth 100000 in
set_option maxHeartbeats 2000000 in
theorem quoted_st (w : World) (b : Nat) (s : ByteArray) (st : Option (List UInt8)) (h : RdSt w b s st) :
    Calls Tryz.prog 94 #[.pointer (some ⟨b, 0, none⟩)] w fun e w' => ∃ (t : List UInt8) (st' : Option (List UInt8)), e = .returned (.string ⟨t.toArray⟩) ∧ st.bind quotS = st'.map (fun l => (t, l)) ∧ t.length ≤ 2002 ∧ RdSt w' b s st' ∧ w.grownBy w' (some b) := by
  obtain ⟨i0, hi, hz0, hz1, hz2⟩ := info_parts infoByte
  have H := hidI h
  have hbl := h.lt
  clear h
  go_enter Tryz.func94, Tryz.ntmps94
  go_wp2_with fail
  refine (need_st _ b s st 34 34 rfl (by decide) (by exact H.out)).mono ?_
  rintro e w1 ⟨rfl, h1, hg1⟩
  have H1 := hidI h1
  have G1 := hidI hg1
  have hT : Hid (st.bind quotS = restS [] (st.bind (markS 34))) := by
    cases st with
    | none => rfl
    | some l => show quotS l = _; rw [quotS]; rfl
  clear h1 hg1
  go_wp2_with fail
  go_loopg [3] (togo (st.bind (markS 34))) (fun k v wr => QuotI w b s (restS [] (st.bind (markS 34))) k v wr)
  case atStart =>
    refine ⟨[], st.bind (markS 34), rfl, ?_, rfl, World.ownsRow_nil _ _ _ _, H1.out, G1.out⟩
    cases hk : st.bind (markS 34) with
    | none => simp [togo]
    | some l =>
      have h1 := H1.out
      rw [hk] at h1
      have := h1.len
      simp [togo]; omega
  case round =>
    obtain ⟨acc, st1, hk, hb, hr, hown, h2, hg2⟩ := hrel
    have A : Hid (gk = togo st1 ∧ acc.length + gk ≤ 2002 ∧ restS acc st1 = restS [] (st.bind (markS 34)) ∧ wr.ownsRow w.heap.size 5 1 u3 acc.length (Lib.byteCells acc) ∧ RdSt wr b s st1 ∧ w.grownBy wr (some b)) := ⟨hk, hb, hr, hown, h2, hg2⟩
    clear hk hb hr hown hg2
    cases st1 with
    | none =>
      obtain ⟨c0, c1, c2, f1, f2⟩ := (RdAt.nil h2).c
      clear h2
      go_wp2_with fail
      go_ret
      obtain ⟨hk, hb, hr, hown, h2, hg2⟩ := A.out
      exact ⟨[], none, rfl, by rw [hT.out, ← hr]; rfl, by simp, h2, hg2⟩
    | some l =>
      have h4 := hidI h2
      obtain ⟨i, h3, e3⟩ := h2
      obtain ⟨c0, c1, c2, f1, f2⟩ := h3.c
      clear h3 e3
      go_wp2_with fail
      clear c0 c1 c2 f1 f2
      cases l with
      | nil =>
        refine (next_nil _ b s false (by exact h4.out)).mono ?_
        rintro e w2 ⟨rfl, h5, hg5⟩
        have B : Hid (RdSt w2 b s none ∧ wr.grownBy w2 (some b)) := ⟨h5, hg5⟩
        clear h5 hg5
        go_wp2_with fail
        refine (fail_st _ b s _ (by exact B.out.1)).mono ?_
        rintro e w3 ⟨rfl, h6, hg6⟩
        have C : Hid (RdSt w3 b s none ∧ w2.grownBy w3 (some b)) := ⟨h6, hg6⟩
        clear h6 hg6
        go_wp2_with fail
        obtain ⟨hk, hb, hr, hown, h2, hg2⟩ := A.out
        go_roundg 0
        case measure => rw [hk]; simp [togo]
        case rel => exact ⟨acc, none, rfl, by omega, hr, own_kept (own_kept hown B.out.2 hbl) C.out.2 hbl, C.out.1, gb_trans (gb_trans hg2 B.out.2) C.out.2⟩
      | cons c l =>
        refine (next_cons _ b s c l false (by exact h4.out)).mono ?_
        rintro e w2 ⟨rfl, h5, hg5⟩
        have B : Hid (RdSt w2 b s (some l) ∧ wr.grownBy w2 (some b)) := ⟨h5, hg5⟩
        clear h5 hg5
        by_cases e1 : c = 34
        · subst e1
          obtain ⟨hk, hb, hr, hown, h2, hg2⟩ := A.out
          have hown2 := own_kept hown B.out.2 hbl
          rcases hown2.2 with ⟨hv, hn⟩ | ⟨g, cap, cur, hv, -, -, -, -, -, -⟩
          · have hacc : acc = [] := List.eq_nil_of_length_eq_zero hn
            subst hv
            clear hk hb hr hown h2 hg2 hown2 hn
            have hcv := run_convert_bytes_nil (P := Tryz.prog) (w := w2) 72 5 Tryz.underlying72 Tryz.underlying5 0 0
            go_wp2_with fail
            go_ret
            obtain ⟨hk, hb, hr, hown, h2, hg2⟩ := A.out
            subst hacc
            exact ⟨[], some l, rfl, by rw [hT.out, ← hr, restS_quote]; rfl, by simp, B.out.1, gb_trans hg2 B.out.2⟩
          · subst hv
            have hcv := run_convert_bytes_back (P := Tryz.prog) w2 72 9 5 ⟨g, 0, none⟩ cap acc Tryz.underlying72 Tryz.underlying5 Tryz.underlying9 (fun j hj => hown2.cells (g := g) rfl j _ (by simp [Lib.byteCells, hj]))
            clear hk hb hr hown h2 hg2 hown2
            go_wp2_with fail
            go_ret
            obtain ⟨hk, hb, hr, hown, h2, hg2⟩ := A.out
            exact ⟨acc, some l, rfl, by rw [hT.out, ← hr, restS_quote]; rfl, by omega, B.out.1, gb_trans hg2 B.out.2⟩
        have n1 := u8_ne (m := 34) rfl e1
        by_cases e2 : c = 92
        · subst e2
          go_wp2_with fail
          refine (escaped_st _ b s (some l) (by exact B.out.1)).mono ?_
          rintro e w3 ⟨x, st3, rfl, hs3, h6, hg6⟩
          have C : Hid ((some l).bind escS = st3.map (fun l => (x, l)) ∧ RdSt w3 b s st3 ∧ w2.grownBy w3 (some b)) := ⟨hs3, h6, hg6⟩
          clear hs3 h6 hg6
          have hown3 : w3.ownsRow w.heap.size 5 1 u3 acc.length (Lib.byteCells acc) := own_kept (own_kept A.out.2.2.2.1 B.out.2 hbl) C.out.2.2 hbl
          have gw3 : w.grownBy w3 (some b) := gb_trans (gb_trans A.out.2.2.2.2.2 B.out.2) C.out.2.2
          have hB3 := gw3.size
          have hl3 : acc.length ≤ 1000000000 := by have := A.out.2.1; omega
          have O3 := hidI hown3
          have G3 := hidI gw3
          clear hown3 gw3
          go_wp2_with (at_builtin; go_must (refine append_byte rfl _ _ rfl w.heap.size u3 acc x rfl rfl O3.out hB3 hl3 ?_); intro v4 w4 hown4 hgrow4; refine Hid.out ?_)
          refine hidI ?_
          have D : Hid (w4.ownsRow w.heap.size 5 1 v4 (acc ++ [x]).length (Lib.byteCells (acc ++ [x])) ∧ w3.grownBy w4 u3.ownBlock) := ⟨hown4, hgrow4⟩
          clear hown4 hgrow4
          go_wp2_with fail
          obtain ⟨hk, hb, hr, hown, h2, hg2⟩ := A.out
          go_roundg (togo st3)
          case measure => rw [hk]; exact Nat.lt_trans (esc_togo C.out.1) (by simp [togo])
          case rel =>
            refine ⟨acc ++ [x], st3, rfl, ?_, ?_, D.out.1, ?_, ?_⟩
            · have h9 := esc_togo C.out.1
              have h8 : togo (some ((92 : UInt8) :: l)) = l.length + 2 := rfl
              rw [hk, h8] at hb
              simp only [List.length_append, List.length_cons, List.length_nil]; omega
            · rw [← hr, restS_esc acc l x st3 C.out.1]
            · exact C.out.2.1.grown D.out.2 (fun e => by have := (O3.out.lt b e.symm).1; omega)
            · exact gb_own G3.out D.out.2 (fun k hk => (O3.out.lt k hk).1)
        have n2 := u8_ne (m := 92) rfl e2
        by_cases e3 : c.toNat < 32 ∨ 127 ≤ c.toNat
        · have F : Hid (restS acc (some (c :: l)) = none) := restS_bad acc l c e1 e2 e3
          have go1 : Hid (∀ w3, RdSt w3 b s none → w2.grownBy w3 (some b) → QuotI w b s (restS [] (st.bind (markS 34))) 0 u3 w3) := by
            intro w3 h6 hg6
            obtain ⟨hk, hb, hr, hown, h2, hg2⟩ := A.out
            exact ⟨acc, none, rfl, by omega, by rw [← hr, F.out]; rfl, own_kept (own_kept hown B.out.2 hbl) hg6 hbl, h6, gb_trans (gb_trans hg2 B.out.2) hg6⟩
          by_cases e4 : c.toNat < 32
          · have e5 : (c.toNat : Int) < 32 := by omega
            clear e3
            go_wp2_with fail
            refine (fail_st _ b s _ (by exact B.out.1)).mono ?_
            rintro e w3 ⟨rfl, h6, hg6⟩
            have C : Hid (RdSt w3 b s none ∧ w2.grownBy w3 (some b)) := ⟨h6, hg6⟩
            clear h6 hg6
            go_wp2_with fail
            go_roundg 0
            case measure => rw [A.out.1]; simp [togo]
            case rel => exact go1.out _ C.out.1 C.out.2
          · have e5 : ¬ (c.toNat : Int) < 32 := by omega
            have e6 : 127 ≤ (c.toNat : Int) := by omega
            clear e3
            go_wp2_with fail
            refine (fail_st _ b s _ (by exact B.out.1)).mono ?_
            rintro e w3 ⟨rfl, h6, hg6⟩
            have C : Hid (RdSt w3 b s none ∧ w2.grownBy w3 (some b)) := ⟨h6, hg6⟩
            clear h6 hg6
            go_wp2_with fail
            go_roundg 0
            case measure => rw [A.out.1]; simp [togo]
            case rel => exact go1.out _ C.out.1 C.out.2
        · have e5 : ¬ (c.toNat : Int) < 32 := by omega
          have e6 : ¬ 127 ≤ (c.toNat : Int) := by omega
          have F : Hid (restS acc (some (c :: l)) = restS (acc ++ [c]) (some l)) := restS_plain acc l c e1 e2 e3
          clear e1 e2 e3
          have hown3 : w2.ownsRow w.heap.size 5 1 u3 acc.length (Lib.byteCells acc) := own_kept A.out.2.2.2.1 B.out.2 hbl
          have gw3 : w.grownBy w2 (some b) := gb_trans A.out.2.2.2.2.2 B.out.2
          have hB3 := gw3.size
          have hl3 : acc.length ≤ 1000000000 := by have := A.out.2.1; omega
          have O3 := hidI hown3
          have G3 := hidI gw3
          clear hown3 gw3
          go_wp2_with (at_builtin; go_must (refine append_byte rfl _ _ rfl w.heap.size u3 acc c rfl rfl O3.out hB3 hl3 ?_); intro v4 w4 hown4 hgrow4; refine Hid.out ?_)
          refine hidI ?_
          have D : Hid (w4.ownsRow w.heap.size 5 1 v4 (acc ++ [c]).length (Lib.byteCells (acc ++ [c])) ∧ w2.grownBy w4 u3.ownBlock) := ⟨hown4, hgrow4⟩
          clear hown4 hgrow4
          go_wp2_with fail
          obtain ⟨hk, hb, hr, hown, h2, hg2⟩ := A.out
          go_roundg (togo (some l))
          case measure => rw [hk]; simp [togo]
          case rel =>
            refine ⟨acc ++ [c], some l, rfl, ?_, ?_, D.out.1, ?_, ?_⟩
            · rw [hk] at hb
              simp [togo] at hb ⊢; omega
            · rw [← hr, F.out]
            · exact B.out.1.grown D.out.2 (fun e => by have := (O3.out.lt b e.symm).1; omega)
            · exact gb_own G3.out D.out.2 (fun k hk => (O3.out.lt k hk).1)
end Go.Proofs.YtmdemcjmcnfjmaaGreatDoor

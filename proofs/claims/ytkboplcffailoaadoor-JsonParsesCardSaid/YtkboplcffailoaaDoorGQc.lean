/- What appendList of package json does, if appendValue does what is said of it. -/
import Derived.Test.YtkboplcffailoaaDoorCc
import Derived.Test.YtkboplcffailoaaDoorRf
import Derived.Test.YtkboplcffailoaaDoorCp
import Derived.Test.YtkboplcffailoaaDoorCh
import Derived.Deep.RegionLaw
import Derived.Deep.DeepCutAuto
import Derived.Deep.CutBlock
import Derived.Test.YtkboplcffailoaaDoorCf
import Derived.Test.YtkboplcffailoaaDoorGc
import Derived.Test.YtkboplcffailoaaDoorShelf
import Derived.Lib.AppendStr
import Derived.Lib.AppendIntMem
import Derived.Lib.BufferKept
/- What word of json's reader does. -/
set_option linter.unusedSimpArgs false
set_option linter.unusedVariables false
namespace Go.Proofs.YtkboplcffailoaaDoor
open Go.RowKit

def wordS (wd l : List UInt8) : Option (List UInt8) := if wd.isPrefixOf l then some (l.drop wd.length) else none

set_option maxRecDepth 100000 in
set_option maxHeartbeats 1000000 in
theorem word_st (w : World) (b : Nat) (s : ByteArray) (st : Option (List UInt8)) (wd : ByteArray) (k n : Int) (hk : I64 k) (hn : I64 n) (hwd : 0 < wd.size) (hwd2 : wd.size ≤ 100) (h : RdSt w b s st) :
    Calls Tryd.prog 16 #[.pointer (some ⟨b, 0, none⟩), .string wd, .agg #[.int .i64 k, .int .i64 n, .string ⟨#[]⟩, .slice none 0 0, .slice none 0 0]] w fun e w' => ∃ (t : V) (v : Value) (st' : Option (List UInt8)), e = .returned v ∧ IsLeaf t v ∧
      (st.bind (wordS wd.data.toList)).map (fun l => (leafV k n [], l)) = st'.map (fun l => (t, l)) ∧ RdSt w' b s st' ∧ w.grownBy w' (some b) := by
  have H := hidI h
  have hbl := h.lt
  obtain ⟨i, h1, e1⟩ := h
  have E1 := hidI e1
  have hi := h1.2.1
  have hs0 := h1.2.2
  have R0 := hidI h1
  clear e1 h1
  have hr1 : Hid (RdIs ((w.alloc (.cells #[.int .i64 k, .int .i64 n, .string ⟨#[]⟩, .slice none 0 0, .slice none 0 0] 25)).alloc zcells) b s i st.isNone) :=
    ⟨by rw [(World.grownBy_alloc _ zcells none).block b (by simp; omega) (by simp), (World.grownBy_alloc w _ none).block b hbl (by simp)]; exact R0.out.1, R0.out.2⟩
  have i0 : (0 : Int) ≤ (i : Int) := by omega
  have i1 : (i : Int) ≤ (s.size : Int) := by omega
  obtain ⟨c0, c1, c2, f1, f2⟩ := hr1.out.c
  unfold zcells at c0 c1 c2 f1 f2
  have hdr : Hid ((s.data.toList.drop i).take (s.size - i) = st.getD []) := by
    show _ = _
    rw [← E1.out]
    exact List.take_of_length_le (by simp only [List.length_drop, Array.length_toList]; exact Nat.le_refl _)
  cases hpx : wd.data.toList.isPrefixOf (st.getD []) with
  | true =>
    have hp : Lib.hasPrefix ((s.data.toList.drop i).take (s.size - i)) wd.data.toList = true := by rw [hdr.out]; exact hpx
    have HP := hidI hpx
    have hlen : i + wd.size ≤ s.size := by
      have := List.IsPrefix.length_le (List.isPrefixOf_iff_prefix.1 hpx)
      rw [← E1.out, List.length_drop, Array.length_toList, Array.length_toList] at this
      have e : s.data.size = s.size := rfl
      have e' : wd.data.size = wd.size := rfl
      omega
    clear hpx
    go_enter Tryd.func16, Tryd.ntmps16
    go_wp2_with fail
    go_quiet ((go_at_call 23; exact Calls.quiet_of_same (Tryd.strings_HasPrefix _ _ _)))
    go_wp2_with fail
    refine bodyPost_ret (v := leaf k n []) (by simp [results, Tryd.results16, go_sem, leaf, str]) rfl ?_
    refine ⟨leafV k n [], leaf k n [], st.map (List.drop wd.data.toList.length), rfl, ⟨_, _, rfl, rfl, hk, hn⟩, ?_, ?_, ?_⟩
    · cases st with
      | none => exact absurd HP.out (by
          cases hw : wd.data.toList with
          | nil => have e : wd.data.toList.length = wd.size := by rw [Array.length_toList]; rfl
                   rw [hw] at e; simp at e; omega
          | cons c r => simp)
      | some l => exact congrArg _ (show wordS wd.data.toList l = some _ by unfold wordS; exact if_pos HP.out)
    · have e9 : ((i : Int) + (wd.size : Int)) = ((i + wd.size : Nat) : Int) := by omega
      refine ⟨i + wd.size, ⟨?_, hlen, hs0⟩, ?_⟩
      · rw [e9]
        refine ((set5_gb _ (w.heap.size + 1) _ _ _ _ _).block b ?_ (by simp; omega)).trans ?_
        · simp [World.setCell]; omega
        · have : (st.map (List.drop wd.data.toList.length)).isNone = st.isNone := by cases st <;> rfl
          rw [this]
          exact heap_set hr1.out.1 1 _
      · have e8 : wd.data.toList.length = wd.size := by rw [Array.length_toList]; rfl
        rw [← List.drop_drop, E1.out, e8]
        cases st with
        | none => simp
        | some l => rfl
    · exact gb_own (gb_set (gb_drewN (gb_alloc (gb_alloc (gb_refl _ _) _) _) _) _ _) (set5_gb _ (w.heap.size + 1) _ _ _ _ _) (by intro k hk; cases hk; omega)
  | false =>
    have hp : Lib.hasPrefix ((s.data.toList.drop i).take (s.size - i)) wd.data.toList = false := by rw [hdr.out]; exact hpx
    have HP := hidI hpx
    clear hpx
    go_enter Tryd.func16, Tryd.ntmps16
    go_wp2_with fail
    go_quiet ((go_at_call 23; exact Calls.quiet_of_same (Tryd.strings_HasPrefix _ _ _)))
    go_wp2_with fail
    refine (fail_at _ b s (st.getD []) st.isNone (by exact ⟨i, ⟨hr1.out.1, hr1.out.2⟩, E1.out⟩)).mono ?_
    rintro e w4 ⟨rfl, h4, hg4⟩
    have hg5 := gb_trans (gb_drewN (gb_refl ((w.alloc (.cells #[.int .i64 k, .int .i64 n, .string ⟨#[]⟩, .slice none 0 0, .slice none 0 0] 25)).alloc zcells) (some b)) nq) hg4
    have hbx : BoxIs w4 (w.heap.size + 1) (.int .i64 0) (.int .i64 0) (.string ⟨#[]⟩) (.slice none 0 0) (.slice none 0 0) := BoxIs.grown (h2b w _ zcells) hg5 (by simp; omega)
    have R4 : Hid (RdAt w4 b s [] true ∧ w.grownBy w4 (some b)) := ⟨h4, gb_trans (gb_alloc (gb_alloc (gb_refl _ _) _) _) hg5⟩
    obtain ⟨x0, x1, x2, x3, x4, y0, y1, y2, y3, y4⟩ := hbx.c
    obtain ⟨z0, z1, z2, z3, z4, -⟩ := (hbx.set (.int .i64 0) (.int .i64 0) (str []) (.slice none 0 0) (.slice none 0 0)).c
    have Z : Hid (_ ∧ _ ∧ _ ∧ _ ∧ _) := ⟨z0, z1, z2, z3, z4⟩
    clear z0 z1 z2 z3 z4 hbx h4 hg4 hg5 c0 c1 c2 f1 f2
    go_wp2_with fail
    obtain ⟨z0, z1, z2, z3, z4⟩ := Z.out
    refine bodyPost_ret (v := leaf 0 0 []) ?_ rfl ?_
    · simp only [set5, str] at z0 z1 z2 z3 z4
      simp [results, Tryd.results16, go_sem, z0, z1, z2, z3, z4, leaf, str]
    · refine ⟨leafV 0 0 [], leaf 0 0 [], none, rfl, ⟨_, _, rfl, rfl, (by unfold I64; omega), (by unfold I64; omega)⟩, ?_, ?_, ?_⟩
      · cases st with
        | none => rfl
        | some l => exact congrArg _ (show wordS wd.data.toList l = none by unfold wordS; rw [if_neg (by rw [show wd.data.toList.isPrefixOf l = false from HP.out]; simp)])
      · exact R4.out.1.of_heap ((set5_gb w4 (w.heap.size + 1) _ _ _ _ _).block b R4.out.1.lt (by simp; omega))
      · exact gb_own R4.out.2 (set5_gb w4 (w.heap.size + 1) _ _ _ _ _) (by intro k hk; cases hk; omega)
end Go.Proofs.YtkboplcffailoaaDoor

/- What a text tells: the plain function that Parse is held against. -/
set_option linter.unusedSimpArgs false
set_option linter.unusedVariables false
namespace Go.Proofs.YtkboplcffailoaaDoor
open Go.RowKit

def itemsS (g : List UInt8 → Option (V × List UInt8)) : Nat → List V → List UInt8 → Option (V × List UInt8)
  | 0, _, _ => none
  | k + 1, acc, l =>
    match markS 44 l with
    | some r => (g r).bind fun p => itemsS g k (acc ++ [p.1]) p.2
    | none => (markS 93 (l.dropWhile isSp)).map fun r => (⟨4, 0, [], [], acc⟩, r)
def listS (g : List UInt8 → Option (V × List UInt8)) (l : List UInt8) : Option (V × List UInt8) :=
  (markS 91 l).bind fun l =>
    match markS 93 l with
    | some r => some (⟨4, 0, [], [], []⟩, r)
    | none => (g (l.dropWhile isSp)).bind fun p => itemsS g (p.2.length + 1) [p.1] p.2
def memS (g : List UInt8 → Option (V × List UInt8)) (v : V) (l : List UInt8) : Option (V × List UInt8) :=
  (quotS l).bind fun q => (markS 58 q.2).bind fun l => (g l).bind fun p => if (memV v q.1).isSome then none else some (withV v q.1 p.1, p.2)
def membsS (g : List UInt8 → Option (V × List UInt8)) : Nat → V → List UInt8 → Option (V × List UInt8)
  | 0, _, _ => none
  | k + 1, v, l =>
    match markS 44 l with
    | some r => (memS g v r).bind fun p => membsS g k p.1 p.2
    | none => (markS 125 (l.dropWhile isSp)).map fun r => (v, r)
def objS (g : List UInt8 → Option (V × List UInt8)) (l : List UInt8) : Option (V × List UInt8) :=
  (markS 123 l).bind fun l =>
    match markS 125 l with
    | some r => some (⟨5, 0, [], [], []⟩, r)
    | none => (memS g ⟨5, 0, [], [], []⟩ (l.dropWhile isSp)).bind fun p => membsS g (p.2.length + 1) p.1 p.2
def oneS (g : List UInt8 → Option (V × List UInt8)) (l : List UInt8) : Option (V × List UInt8) :=
  if hd0 l = 110 then (wordS [110, 117, 108, 108] l).map fun r => (leafV 0 0 [], r)
  else if hd0 l = 102 then (wordS [102, 97, 108, 115, 101] l).map fun r => (leafV 1 0 [], r)
  else if hd0 l = 116 then (wordS [116, 114, 117, 101] l).map fun r => (leafV 1 1 [], r)
  else if hd0 l = 34 then (quotS l).map fun p => (leafV 3 0 p.1, p.2)
  else if hd0 l = 91 then listS g l
  else if hd0 l = 123 then objS g l
  else (numS l).map fun p => (leafV 2 p.1 [], p.2)
def valS : Nat → List UInt8 → Option (V × List UInt8)
  | 0, _ => none
  | f + 1, l => oneS (valS f) (l.dropWhile isSp)

/- It leaves less than there was. -/
def Less (g : List UInt8 → Option (V × List UInt8)) : Prop := ∀ l p, g l = some p → p.2.length < l.length
theorem itemsS_len {g : List UInt8 → Option (V × List UInt8)} (hg : Less g) (k : Nat) : ∀ (acc : List V) (l : List UInt8) (p : V × List UInt8), itemsS g k acc l = some p → p.2.length < l.length := by
  induction k with
  | zero => intro acc l p h; cases h
  | succ k ih =>
    intro acc l p h
    simp only [itemsS] at h
    split at h
    · rename_i r hr
      simp only [Option.bind_eq_some_iff] at h
      obtain ⟨q, h1, h2⟩ := h
      have := hg _ _ h1
      have := ih _ _ _ h2
      have := markS_len hr
      omega
    · simp only [Option.map_eq_some_iff] at h
      obtain ⟨r, h1, rfl⟩ := h
      have := markS_len h1
      have := dropSp_len l
      simp only; omega
theorem listS_len {g : List UInt8 → Option (V × List UInt8)} (hg : Less g) : Less (listS g) := by
  intro l p h
  simp only [listS, Option.bind_eq_some_iff] at h
  obtain ⟨r, h1, h2⟩ := h
  have := markS_len h1
  split at h2
  · rename_i r2 hr2
    cases h2
    have := markS_len hr2
    simp only; omega
  · simp only [Option.bind_eq_some_iff] at h2
    obtain ⟨q, h3, h4⟩ := h2
    have := hg _ _ h3
    have := itemsS_len hg _ _ _ _ h4
    have := dropSp_len r
    omega
theorem memS_len {g : List UInt8 → Option (V × List UInt8)} (hg : Less g) (v : V) : Less (memS g v) := by
  intro l p h
  simp only [memS, Option.bind_eq_some_iff] at h
  obtain ⟨q, h1, r, h2, y, h3, h4⟩ := h
  split at h4
  · cases h4
  · cases h4
    have := quotS_len h1
    have := markS_len h2
    have := hg _ _ h3
    simp only; omega
theorem membsS_len {g : List UInt8 → Option (V × List UInt8)} (hg : Less g) (k : Nat) : ∀ (v : V) (l : List UInt8) (p : V × List UInt8), membsS g k v l = some p → p.2.length < l.length := by
  induction k with
  | zero => intro acc l p h; cases h
  | succ k ih =>
    intro acc l p h
    simp only [membsS] at h
    split at h
    · rename_i r hr
      simp only [Option.bind_eq_some_iff] at h
      obtain ⟨q, h1, h2⟩ := h
      have := memS_len hg _ _ _ h1
      have := ih _ _ _ h2
      have := markS_len hr
      omega
    · simp only [Option.map_eq_some_iff] at h
      obtain ⟨r, h1, rfl⟩ := h
      have := markS_len h1
      have := dropSp_len l
      simp only; omega
theorem objS_len {g : List UInt8 → Option (V × List UInt8)} (hg : Less g) : Less (objS g) := by
  intro l p h
  simp only [objS, Option.bind_eq_some_iff] at h
  obtain ⟨r, h1, h2⟩ := h
  have := markS_len h1
  split at h2
  · rename_i r2 hr2
    cases h2
    have := markS_len hr2
    simp only; omega
  · simp only [Option.bind_eq_some_iff] at h2
    obtain ⟨q, h3, h4⟩ := h2
    have := memS_len hg _ _ _ h3
    have := membsS_len hg _ _ _ _ h4
    have := dropSp_len r
    omega
theorem wordS_len {wd l r : List UInt8} (hw : 0 < wd.length) (h : wordS wd l = some r) : r.length < l.length := by
  unfold wordS at h
  split at h
  · rename_i hp
    cases h
    have := List.IsPrefix.length_le (List.isPrefixOf_iff_prefix.1 hp)
    rw [List.length_drop]; omega
  · cases h
theorem numS_len {l : List UInt8} {p : Int × List UInt8} (h : numS l = some p) : p.2.length < l.length := by
  unfold numS at h
  split at h
  · rename_i v hv
    split at h
    · rename_i he
      cases h
      have e : l = l.takeWhile isNum ++ l.dropWhile isNum := (List.takeWhile_append_dropWhile).symm
      have e2 := congrArg List.length e
      rw [List.length_append] at e2
      have : 0 < (l.takeWhile isNum).length := by
        cases ht : l.takeWhile isNum with
        | nil => rw [ht] at hv; exact absurd hv (atoi_nil v)
        | cons c r => simp
      simp only; omega
    · cases h
  · cases h
theorem oneS_len {g : List UInt8 → Option (V × List UInt8)} (hg : Less g) : Less (oneS g) := by
  intro l p h
  unfold oneS at h
  split at h
  · simp only [Option.map_eq_some_iff] at h; obtain ⟨r, h1, rfl⟩ := h; exact wordS_len (by simp) h1
  split at h
  · simp only [Option.map_eq_some_iff] at h; obtain ⟨r, h1, rfl⟩ := h; exact wordS_len (by simp) h1
  split at h
  · simp only [Option.map_eq_some_iff] at h; obtain ⟨r, h1, rfl⟩ := h; exact wordS_len (by simp) h1
  split at h
  · simp only [Option.map_eq_some_iff] at h; obtain ⟨r, h1, rfl⟩ := h; exact quotS_len h1
  split at h
  · exact listS_len hg _ _ h
  split at h
  · exact objS_len hg _ _ h
  · simp only [Option.map_eq_some_iff] at h; obtain ⟨r, h1, rfl⟩ := h; exact numS_len h1
theorem valS_len (f : Nat) : Less (valS f) := by
  induction f with
  | zero => intro l p h; cases h
  | succ f ih =>
    intro l p h
    have := oneS_len ih _ _ h
    have := dropSp_len l
    omega
end Go.Proofs.YtkboplcffailoaaDoor

/- What list of json's reader does, if value does what is said of it. -/
set_option linter.unusedSimpArgs false
set_option linter.unusedVariables false
namespace Go.Proofs.YtkboplcffailoaaDoor
open Go.RowKit

/- What is said of value, where less than f is still to be read. -/
def ValC (f : Nat) : Prop := ∀ (w : World) (b : Nat) (s : ByteArray) (st : Option (List UInt8)), RdSt w b s st → Glob w → 4 ≤ b → (st.getD []).length < f →
    Calls Tryd.prog 8 #[.pointer (some ⟨b, 0, none⟩)] w fun e w' => ∃ (t : V) (st' : Option (List UInt8)) (a7 a8 : Option Addr) (c7 c8 : Nat),
      e = .returned (.agg #[.int .i64 t.kind, .int .i64 t.n, .string ⟨t.s.toArray⟩, .slice a7 t.keys.length c7, .slice a8 t.l.length c8]) ∧
      VIs w' (fun k => w.heap.size ≤ k) f t (.agg #[.int .i64 t.kind, .int .i64 t.n, .string ⟨t.s.toArray⟩, .slice a7 t.keys.length c7, .slice a8 t.l.length c8]) ∧ st.bind (valS f) = st'.map (fun l => (t, l)) ∧ RdSt w' b s st' ∧ w.grownBy w' (some b)

/- One value more, behind a row of values that the call has made. -/
theorem box_setL {w : World} {g : Nat} {c0 c1 c2 c3 c4 : Value} (h : BoxIs w g c0 c1 c2 c3 c4) (v : Value) : BoxIs (w.setCell ⟨g, 4, none⟩ v) g c0 c1 c2 c3 v := heap_set h 4 v
theorem step_appendV {w : World} {ops : Array Oper} {o : Oper} {a : Act} {K : Act → World → Prop} {Q : Exit → Act → World → Prop} {E : Prop} (hgd : o.guard = none) (s x : Operand)
    (ho : o.op = .call { callee := .builtin .append, args := #[s, x], argTypes := #[23, 23] }) (B : Nat) (v : Value) (n : Nat) (cs : List Value) (k m : Int) (ss : ByteArray) (a7 a8 : Option Addr) (l7 c7 l8 c8 : Nat) (hs : a.eval s = v)
    (hx : a.eval x = .slice (some ⟨w.heap.size, 0, none⟩) 1 1) (hown : w.ownsRow B 25 5 v n cs) (hB : B ≤ w.heap.size) (hl : n ≤ 1000000)
    (hK : ∀ g cap w', w'.ownsRow B 25 5 (.slice (some ⟨g, 0, none⟩) (n + 1) cap) (n + 1) (cs ++ [.int .i64 k, .int .i64 m, .string ss, .slice a7 l7 c7, .slice a8 l8 c8]) → (w.alloc (.cells #[.int .i64 k, .int .i64 m, .string ss, .slice a7 l7 c7, .slice a8 l8 c8] 25)).grownBy w' v.ownBlock → (v.ownBlock = some g ∨ w.heap.size < g) → K (a.put o.dst (.slice (some ⟨g, 0, none⟩) (n + 1) cap)) w') :
    if Region.wanted o (yielded ops a.tmps) = true then Oper.wp Tryd.prog o a (w.alloc (.cells #[.int .i64 k, .int .i64 m, .string ss, .slice a7 l7 c7, .slice a8 l8 c8] 25)) K Q else E := by
  obtain ⟨i0, hi, hz0, hz1, hz2⟩ := info_parts info25
  have hb : BoxIs (w.alloc (.cells #[.int .i64 k, .int .i64 m, .string ss, .slice a7 l7 c7, .slice a8 l8 c8] 25)) w.heap.size (.int .i64 k) (.int .i64 m) (.string ss) (.slice a7 l7 c7) (.slice a8 l8 c8) := heap_alloc_new w _
  obtain ⟨h1, h2, h3, h4⟩ := slbox hb (one5 _ _ _ _ _ _ _ _ _)
  refine step_append_lies _ hgd s x 23 ho B 25 i0 _ 5 80 Tryd.underlying23 hi hz0 hz1 hz2 rfl (by decide) v n cs hs (hown.alloc _) ⟨w.heap.size, 0, none⟩ 1 1 [.int .i64 k, .int .i64 m, .string ss, .slice a7 l7 c7, .slice a8 l8 c8] hx rfl ?_ h3 (by decide) (by unfold maxLen; omega) (by omega) (by simp; omega) (w.heap.size + 1) (by simp) ?_
  · rcases h4 with ⟨e, _⟩ | ⟨ad, c, e, hc⟩
    · simp at e
    · simp only [Value.slice.injEq, Option.some.injEq] at e
      obtain ⟨rfl, -, -⟩ := e
      exact hc
  · intro g cap w' ho' hg' hor _
    exact hK g cap w' ho' hg' (hor.imp id fun e => by omega)

theorem listS_next {g : List UInt8 → Option (V × List UInt8)} {st : Option (List UInt8)} :
    st.bind (listS g) = (st.bind (markS 91)).bind fun l => match markS 93 l with | some r => some (⟨4, 0, [], [], []⟩, r) | none => (g (l.dropWhile isSp)).bind fun p => itemsS g (p.2.length + 1) [p.1] p.2 := by
  cases st <;> rfl

theorem itemsS_fuel {g : List UInt8 → Option (V × List UInt8)} (hg : Less g) (n : Nat) : ∀ (m : Nat) (acc : List V) (l : List UInt8), l.length < n → l.length < m → itemsS g n acc l = itemsS g m acc l := by
  induction n with
  | zero => intro m acc l h; omega
  | succ n ih =>
    intro m acc l h1 h2
    cases m with
    | zero => omega
    | succ m =>
      simp only [itemsS]
      split
      · rename_i r hr
        have := markS_len hr
        cases hgr : g r with
        | none => rfl
        | some p =>
          have := hg _ _ hgr
          exact ih m _ _ (by omega) (by omega)
      · rfl
def itemsT (g : List UInt8 → Option (V × List UInt8)) (acc : List V) (st : Option (List UInt8)) : Option (V × List UInt8) := st.bind fun l => itemsS g (l.length + 1) acc l
theorem items_step {g : List UInt8 → Option (V × List UInt8)} (hg : Less g) {acc : List V} {st1 st3 : Option (List UInt8)} {t0 : V} (h2 : (st1.bind (markS 44)).isSome = true) (h3 : (st1.bind (markS 44)).bind g = st3.map (fun l => (t0, l))) :
    itemsT g acc st1 = itemsT g (acc ++ [t0]) st3 ∧ togo st3 < togo st1 := by
  cases st1 with
  | none => cases h2
  | some l =>
    cases hm : markS 44 l with
    | none => simp [hm] at h2
    | some r =>
      have hr := markS_len hm
      simp only [Option.bind_some, hm] at h3
      have e : itemsT g acc (some l) = (g r).bind fun p => itemsS g l.length (acc ++ [p.1]) p.2 := by
        show itemsS g (l.length + 1) acc l = _
        simp only [itemsS, hm]
      rw [e, h3]
      cases st3 with
      | none => exact ⟨rfl, by simp [togo]⟩
      | some l3 =>
        have hl := hg _ _ h3
        simp only at hl
        exact ⟨itemsS_fuel hg _ _ _ _ (by simp only; omega) (by simp only; omega), by simp only [togo]; omega⟩
theorem items_end {g : List UInt8 → Option (V × List UInt8)} {acc : List V} {st1 : Option (List UInt8)} (h2 : (st1.bind (markS 44)).isSome = false) :
    itemsT g acc st1 = ((st1.map (List.dropWhile isSp)).bind (markS 93)).map fun r => (⟨4, 0, [], [], acc⟩, r) := by
  cases st1 with
  | none => rfl
  | some l =>
    cases hm : markS 44 l with
    | some r => simp [hm] at h2
    | none =>
      show itemsS g (l.length + 1) acc l = _
      simp only [itemsS, hm]; rfl
theorem list_first {g : List UInt8 → Option (V × List UInt8)} {st st3 : Option (List UInt8)} {t0 : V} (h2 : ((st.bind (markS 91)).bind (markS 93)).isSome = false)
    (h3 : ((st.bind (markS 91)).map (List.dropWhile isSp)).bind g = st3.map (fun l => (t0, l))) : st.bind (listS g) = itemsT g [t0] st3 := by
  rw [listS_next]
  cases hs : st.bind (markS 91) with
  | none =>
    rw [hs] at h3
    cases st3 with
    | none => rfl
    | some l => cases h3
  | some l =>
    rw [hs] at h2 h3
    simp only [Option.bind_some] at h2 ⊢
    have hm : markS 93 l = none := by cases hm : markS 93 l with
      | none => rfl
      | some r => simp [hm] at h2
    rw [hm]
    have h3' : g (l.dropWhile isSp) = st3.map (fun l => (t0, l)) := h3
    simp only [h3']
    cases st3 <;> rfl

/- What holds ahead of each comma. -/
def ListI (f : Nat) (w : World) (b : Nat) (s : ByteArray) (T : Option (V × List UInt8)) (k : Nat) (wr : World) : Prop :=
  ∃ (acc : List V) (st1 : Option (List UInt8)) (g cap : Nat) (cs : List Value), k = togo st1 ∧ itemsT (valS f) acc st1 = T ∧ acc.length + k ≤ 3000 ∧ (st1.getD []).length < f ∧
    BoxIs wr w.heap.size (.int .i64 0) (.int .i64 0) (.string ⟨#[]⟩) (.slice none 0 0) (.slice none 0 0) ∧
    BoxIs wr (w.heap.size + 1) (.int .i64 4) (.int .i64 0) (.string ⟨#[]⟩) (.slice none 0 0) (.slice (some ⟨g, 0, none⟩) acc.length cap) ∧
    wr.ownsRow (w.heap.size + 2) 25 5 (.slice (some ⟨g, 0, none⟩) acc.length cap) acc.length cs ∧ RowV (VIs wr (fun k => w.heap.size + 2 ≤ k ∧ k ≠ g) f) acc cs ∧ RdSt wr b s st1 ∧ Glob wr ∧ w.grownBy wr (some b)

theorem listI_mk {f : Nat} {w w3 w4 : World} {b : Nat} {s : ByteArray} {T : Option (V × List UInt8)} {t0 : V} {st3 : Option (List UInt8)} {acc : List V} {cs : List Value} {lv : Value} {a7 a8 : Option Addr} {c7 c8 g cap g0 : Nat} (hbl : b < w.heap.size)
    (bxC : BoxIs w3 w.heap.size (.int .i64 0) (.int .i64 0) (.string ⟨#[]⟩) (.slice none 0 0) (.slice none 0 0)) (bxA : BoxIs w3 (w.heap.size + 1) (.int .i64 4) (.int .i64 0) (.string ⟨#[]⟩) (.slice none 0 0) lv)
    (hown3 : w3.ownsRow (w.heap.size + 2) 25 5 lv acc.length cs) (hlv : lv.ownBlock = none ∨ lv.ownBlock = some g0) (hrow3 : RowV (VIs w3 (fun k => w.heap.size + 2 ≤ k ∧ k ≠ g0) f) acc cs)
    (hv : VIs w3 (fun k => w.heap.size + 2 ≤ k ∧ k ≠ g0) f t0 (.agg #[.int .i64 t0.kind, .int .i64 t0.n, .string ⟨t0.s.toArray⟩, .slice a7 t0.keys.length c7, .slice a8 t0.l.length c8])) (hT : itemsT (valS f) (acc ++ [t0]) st3 = T) (hl : (st3.getD []).length < f) (hc : acc.length + 1 + togo st3 ≤ 3000) (hr : RdSt w3 b s st3) (hG : Glob w3) (hb4 : 4 ≤ b) (hg : w.grownBy w3 (some b))
    (ho4 : w4.ownsRow (w.heap.size + 2) 25 5 (.slice (some ⟨g, 0, none⟩) (acc.length + 1) cap) (acc.length + 1) (cs ++ [.int .i64 t0.kind, .int .i64 t0.n, .string ⟨t0.s.toArray⟩, .slice a7 t0.keys.length c7, .slice a8 t0.l.length c8])) (hg4 : (w3.alloc (.cells #[.int .i64 t0.kind, .int .i64 t0.n, .string ⟨t0.s.toArray⟩, .slice a7 t0.keys.length c7, .slice a8 t0.l.length c8] 25)).grownBy w4 lv.ownBlock) (hgg : lv.ownBlock = some g ∨ w3.heap.size < g) :
    ListI f w b s T (togo st3) (w4.setCell ⟨w.heap.size + 1, 4, none⟩ (.slice (some ⟨g, 0, none⟩) (acc.length + 1) cap)) := by
  have hlow : ∀ k, lv.ownBlock = some k → w.heap.size + 2 ≤ k := fun k hk => (hown3.lt k hk).1
  have g34 : w3.grownBy w4 lv.ownBlock := gb_trans (World.grownBy_alloc w3 _ _) hg4
  have g5 : w4.grownBy (w4.setCell ⟨w.heap.size + 1, 4, none⟩ (.slice (some ⟨g, 0, none⟩) (acc.length + 1) cap)) (some (w.heap.size + 1)) := gb_set (gb_refl _ _) _ _
  have ne : ∀ k, k < w.heap.size + 2 → some k ≠ lv.ownBlock := fun k hk e => by have := hlow k e.symm; omega
  have conv : ∀ x v, VIs w3 (fun k => w.heap.size + 2 ≤ k ∧ k ≠ g0) f x v → VIs (w4.setCell ⟨w.heap.size + 1, 4, none⟩ (.slice (some ⟨g, 0, none⟩) (acc.length + 1) cap)) (fun k => w.heap.size + 2 ≤ k ∧ k ≠ g) f x v := by
    intro x v h
    have h1 := (h.below.grown g34 (fun k hk e => by rcases hlv with h0 | h0 <;> rw [h0] at e <;> simp at e; exact hk.1.2 e)).grown g5 (fun k hk e => by simp at e; omega)
    refine h1.weak fun k hk => ⟨hk.1.1, fun e => ?_⟩
    subst e
    rcases hgg with h0 | h0
    · rcases hlv with h2 | h2
      · rw [h2] at h0; cases h0
      · rw [h2] at h0; cases h0; exact hk.1.2 rfl
    · omega
  refine ⟨acc ++ [t0], st3, g, cap, cs ++ [.int .i64 t0.kind, .int .i64 t0.n, .string ⟨t0.s.toArray⟩, .slice a7 t0.keys.length c7, .slice a8 t0.l.length c8], rfl, hT, by simp only [List.length_append, List.length_cons, List.length_nil]; omega, hl, ?_, ?_, ?_, ?_, ?_, ?_, ?_⟩
  · exact (bxC.grown g34 (ne _ (by omega))).grown g5 (by simp)
  · have := box_setL (bxA.grown g34 (ne _ (by omega))) (.slice (some ⟨g, 0, none⟩) (acc.length + 1) cap)
    simpa using this
  · have := own_kept' ho4 g5 (by omega)
    simpa using this
  · have rx : RowV (VIs (w4.setCell ⟨w.heap.size + 1, 4, none⟩ (.slice (some ⟨g, 0, none⟩) (acc.length + 1) cap)) (fun k => w.heap.size + 2 ≤ k ∧ k ≠ g) f) [t0] [.int .i64 t0.kind, .int .i64 t0.n, .string ⟨t0.s.toArray⟩, .slice a7 t0.keys.length c7, .slice a8 t0.l.length c8] := ⟨_, _, _, _, _, [], rfl, conv _ _ hv, rfl⟩
    exact rx.append (hrow3.imp conv)
  · exact (hr.grown g34 (ne _ (by omega))).grown g5 (by simp; omega)
  · exact (hG.grown g34 (fun k hk => by have := hlow k hk; have := hG.size; omega)).grown g5 (fun k hk => by cases hk; have := hG.size; omega)
  · exact gb_setA (gb_own hg g34 (fun k hk => by have := hlow k hk; omega)) (by omega) _ _

set_option maxRecDepth 100000 in
set_option maxHeartbeats 4000000 in
theorem list_st (f : Nat) (ih : ValC f) (w : World) (b : Nat) (s : ByteArray) (st : Option (List UInt8)) (h : RdSt w b s st) (hG : Glob w) (hb4 : 4 ≤ b) (hf0 : 0 < f) (hlen : (st.getD []).length < f + 1) :
    Calls Tryd.prog 18 #[.pointer (some ⟨b, 0, none⟩)] w fun e w' => ∃ (t : V) (st' : Option (List UInt8)) (a7 a8 : Option Addr) (c7 c8 : Nat),
      e = .returned (.agg #[.int .i64 t.kind, .int .i64 t.n, .string ⟨t.s.toArray⟩, .slice a7 t.keys.length c7, .slice a8 t.l.length c8]) ∧
      VIs w' (fun k => w.heap.size ≤ k) (f + 1) t (.agg #[.int .i64 t.kind, .int .i64 t.n, .string ⟨t.s.toArray⟩, .slice a7 t.keys.length c7, .slice a8 t.l.length c8]) ∧ st.bind (listS (valS f)) = st'.map (fun l => (t, l)) ∧ RdSt w' b s st' ∧ w.grownBy w' (some b) := by
  have H := hidI h
  have HG := hidI hG
  have IH := hidI ih
  have hbl := h.lt
  clear h hG ih
  go_enter Tryd.func18, Tryd.ntmps18
  go_wp2_with fail
  refine (need_st _ b s st 91 91 rfl (by decide) (by exact H.out.grown (gb_alloc (World.grownBy_alloc w _ none) _) (by simp))).mono ?_
  rintro e w1 ⟨rfl, h1, hg1⟩
  have bx1 : Hid (BoxIs w1 w.heap.size (.int .i64 0) (.int .i64 0) (.string ⟨#[]⟩) (.slice none 0 0) (.slice none 0 0) ∧ BoxIs w1 (w.heap.size + 1) (.int .i64 4) (.int .i64 0) (.string ⟨#[]⟩) (.slice none 0 0) (.slice none 0 0)) :=
    ⟨BoxIs.grown (h2a w _ _) hg1 (by simp; omega), BoxIs.grown (h2b w _ _) hg1 (by simp; omega)⟩
  have G1 : Hid (RdSt w1 b s (st.bind (markS 91)) ∧ w.grownBy w1 (some b)) := ⟨h1, gb_trans (gb_alloc (gb_alloc (gb_refl _ _) _) _) hg1⟩
  clear h1 hg1
  go_wp2_with fail
  refine (mark_st _ b s (st.bind (markS 91)) 93 93 rfl (by decide) (by exact G1.out.1)).mono ?_
  rintro e w2 ⟨rfl, h2, hg2⟩
  have bx2 : Hid (BoxIs w2 w.heap.size (.int .i64 0) (.int .i64 0) (.string ⟨#[]⟩) (.slice none 0 0) (.slice none 0 0) ∧ BoxIs w2 (w.heap.size + 1) (.int .i64 4) (.int .i64 0) (.string ⟨#[]⟩) (.slice none 0 0) (.slice none 0 0)) :=
    ⟨bx1.out.1.grown hg2 (by simp; omega), bx1.out.2.grown hg2 (by simp; omega)⟩
  have G2 : Hid (RdSt w2 b s (if ((st.bind (markS 91)).bind (markS 93)).isSome then (st.bind (markS 91)).bind (markS 93) else (st.bind (markS 91)).map (List.dropWhile isSp)) ∧ w.grownBy w2 (some b)) := ⟨h2, gb_trans G1.out.2 hg2⟩
  obtain ⟨x0, x1, x2, x3, x4, y0, y1, y2, y3, y4⟩ := bx2.out.1.c
  obtain ⟨p0, p1, p2, p3, p4, -, -, -, p9, p10⟩ := bx2.out.2.c
  clear h2 hg2 bx1 G1
  cases hm : ((st.bind (markS 91)).bind (markS 93)).isSome with
  | true =>
    have HM := hidI hm
    obtain ⟨z0, z1, z2, z3, z4, -⟩ := (bx2.out.1.set (.int .i64 4) (.int .i64 0) (.string ⟨#[]⟩) (.slice none 0 0) (.slice none 0 0)).c
    have Z : Hid (_ ∧ _ ∧ _ ∧ _ ∧ _) := ⟨z0, z1, z2, z3, z4⟩
    clear z0 z1 z2 z3 z4 hm
    go_wp2_with fail
    obtain ⟨z0, z1, z2, z3, z4⟩ := Z.out
    refine bodyPost_ret (v := leaf 4 0 []) ?_ rfl ?_
    · simp only [set5, str] at z0 z1 z2 z3 z4
      simp [results, Tryd.results18, go_sem, z0, z1, z2, z3, z4, leaf, str]
    · refine ⟨leafV 4 0 [], (st.bind (markS 91)).bind (markS 93), none, none, 0, 0, rfl, leaf_is _ _ f _ _ _ (by unfold I64; omega) (by unfold I64; omega) (by simp), ?_, ?_, ?_⟩
      · rw [listS_next]
        cases hs : st.bind (markS 91) with
        | none => rw [hs] at HM; exact absurd HM.out (by simp)
        | some l =>
          rw [hs] at HM
          cases h9 : markS 93 l with
          | none => simp [h9] at HM; exact absurd HM.out (by simp)
          | some r => simp only [Option.bind_some, h9]; rfl
      · have := G2.out.1
        rw [if_pos HM.out] at this
        exact this.of_heap ((set5_gb w2 w.heap.size _ _ _ _ _).block b this.lt (by simp; omega))
      · exact gb_own G2.out.2 (set5_gb w2 w.heap.size _ _ _ _ _) (by intro k hk; cases hk; exact Nat.le_refl _)
  | false =>
    have HM := hidI hm
    have G3 : Hid (RdSt w2 b s ((st.bind (markS 91)).map (List.dropWhile isSp)) ∧ w.grownBy w2 (some b) ∧ Glob w2) := by
      have := G2.out.1
      rw [if_neg (by rw [HM.out]; simp)] at this
      exact ⟨this, G2.out.2, HG.out.grown G2.out.2 (by intro k hk; cases hk; exact hb4)⟩
    clear hm G2
    have call5 : Hid (∀ W, W.heap = w2.heap → W.os = w2.os → W.tape = w2.tape → W.output = w2.output → Calls Tryd.prog 8 #[.pointer (some ⟨b, 0, none⟩)] W fun e w' => ∃ (t : V) (st' : Option (List UInt8)) (a7 a8 : Option Addr) (c7 c8 : Nat),
        e = .returned (.agg #[.int .i64 t.kind, .int .i64 t.n, .string ⟨t.s.toArray⟩, .slice a7 t.keys.length c7, .slice a8 t.l.length c8]) ∧ VIs w' (fun k => w2.heap.size ≤ k) f t (.agg #[.int .i64 t.kind, .int .i64 t.n, .string ⟨t.s.toArray⟩, .slice a7 t.keys.length c7, .slice a8 t.l.length c8]) ∧ st.bind (listS (valS f)) = itemsT (valS f) [t] st' ∧ (st'.getD []).length < f ∧ 1 + togo st' ≤ 3000 ∧ RdSt w' b s st' ∧ w2.grownBy w' (some b)) := by
      intro W e1 e2 e3 e4
      have hl2 : (((st.bind (markS 91)).map (List.dropWhile isSp)).getD []).length < f := by
        cases hs : st.bind (markS 91) with
        | none => exact hf0
        | some l =>
          cases st with
          | none => cases hs
          | some l0 =>
            have := markS_len (show markS 91 l0 = some l from hs)
            have := dropSp_len l
            simp only [Option.getD_some, Option.map_some] at hlen ⊢
            omega
      have hgW : w2.grownBy W (some b) := ⟨e2, e3, e4, by rw [e1]; exact Nat.le_refl _, fun k _ _ => by rw [e1]⟩
      refine (IH.out W b s _ (G3.out.1.of_heap (by rw [e1])) (G3.out.2.2.same e1) hb4 hl2).mono ?_
      rintro e w' ⟨t, st', a7, a8, c7, c8, rfl, hv, hst, hr, hg⟩
      rw [e1] at hv
      refine ⟨t, st', a7, a8, c7, c8, rfl, hv, list_first HM.out hst, ?_, ?_, hr, gb_trans hgW hg⟩
      · cases st' with
        | none => exact hf0
        | some l' =>
          cases hs : (st.bind (markS 91)).map (List.dropWhile isSp) with
          | none => rw [hs] at hst; cases hst
          | some l1 =>
            rw [hs] at hst hl2
            have := valS_len f l1 _ hst
            simp only [Option.getD_some] at hl2 ⊢
            simp only at this
            omega
      · cases st' with
        | none => simp [togo]
        | some l' => have := hr.len; simp only [togo]; omega
    go_upto_region 5 with fail
    go_cut [] (fun wc => ∃ k, ListI f w b s (st.bind (listS (valS f))) k wc)
    case first =>
      go_region_law ((first | (refine step_appendV (by rfl) _ _ (by rfl) (w.heap.size + 2) (.slice none 0 0) 0 [] t0.kind t0.n ⟨t0.s.toArray⟩ a7 a8 t0.keys.length c7 t0.l.length c8 (by rfl) (by rfl) (World.ownsRow_nil _ _ _ _) hsz3 (by omega) ?_; intro g cap w4 ho4 hg4 hgg4; obtain ⟨x0, x1, x2, x3, x4, y0, y1, y2, y3, y4⟩ := (bx3.out.1.grown (World.grownBy_alloc _ _ none) (by simp)).grown hg4 (by simp [Value.ownBlock]) |>.c; obtain ⟨p0, p1, p2, p3, p4, -, -, -, p9, p10⟩ := (bx3.out.2.grown (World.grownBy_alloc _ _ none) (by simp)).grown hg4 (by simp [Value.ownBlock]) |>.c) | (go_simp; go_at_call 8; refine (call5.out _ (by rfl) (by rfl) (by rfl) (by rfl)).mono ?_; rintro e w3 ⟨t0, st3, a7, a8, c7, c8, rfl, hv3, hT3, hl3, ht3, hr3, hg3⟩; have hsz3 : w.heap.size + 2 ≤ w3.heap.size := Nat.le_trans bx2.out.2.lt hg3.size; have bx3 : Hid (BoxIs w3 w.heap.size (.int .i64 0) (.int .i64 0) (.string ⟨#[]⟩) (.slice none 0 0) (.slice none 0 0) ∧ BoxIs w3 (w.heap.size + 1) (.int .i64 4) (.int .i64 0) (.string ⟨#[]⟩) (.slice none 0 0) (.slice none 0 0)) := ⟨bx2.out.1.grown hg3 (by simp; omega), bx2.out.2.grown hg3 (by simp; omega)⟩; have k4 : ∀ o, (w3.alloc o).cell? ⟨w.heap.size + 1, 4, none⟩ = some (.slice none 0 0) := fun o => (bx3.out.2.grown (World.grownBy_alloc w3 o none) (by simp)).c.2.2.2.2.1; have q4 := bx3.out.2.c.2.2.2.2.1; have V3 : Hid (_ ∧ _ ∧ _ ∧ _ ∧ _ ∧ _) := ⟨hv3, hT3, hl3, ht3, hr3, hg3⟩; clear hv3 hT3 hl3 ht3 hr3 hg3)))
      all_goals
        go_wp2_with fail
        go_meet
        case rel =>
          obtain ⟨hv3, hT3, hl3, ht3, hr3, hg3⟩ := V3.out
          refine ⟨togo st3, listI_mk (acc := []) (g0 := w3.heap.size) hbl bx3.out.1 bx3.out.2 (World.ownsRow_nil _ _ _ _) (.inl rfl) rfl ?_ hT3.symm hl3 (by simpa using ht3) hr3 (G3.out.2.2.grown hg3 (by intro k hk; cases hk; exact hb4)) hb4 (gb_trans G3.out.2.1 hg3) ho4 hg4 hgg4⟩
          exact hv3.below.weak fun k hk => ⟨Nat.le_trans bx2.out.2.lt hk.1, by omega⟩
    case rest =>
      obtain ⟨k0, hI0⟩ := hcut
      have I0 := hidI hI0
      clear hI0 x0 x1 x2 x3 x4 y0 y1 y2 y3 y4 p0 p1 p2 p3 p4 p9 p10 call5 bx2 G3
      go_wp2_with fail
      go_loopg [] k0 (fun k wr => ListI f w b s (st.bind (listS (valS f))) k wr)
      case atStart => exact I0.out
      case round =>
        obtain ⟨acc, st1, g0, cap0, cs, hk, hT, hc, hl1, bxC, bxA, ho, hrow, hr, hGr, hg⟩ := hrel
        have A : Hid (gk = togo st1 ∧ itemsT (valS f) acc st1 = st.bind (listS (valS f)) ∧ acc.length + gk ≤ 3000 ∧ (st1.getD []).length < f ∧ BoxIs wr w.heap.size (.int .i64 0) (.int .i64 0) (.string ⟨#[]⟩) (.slice none 0 0) (.slice none 0 0) ∧ BoxIs wr (w.heap.size + 1) (.int .i64 4) (.int .i64 0) (.string ⟨#[]⟩) (.slice none 0 0) (.slice (some ⟨g0, 0, none⟩) acc.length cap0) ∧ wr.ownsRow (w.heap.size + 2) 25 5 (.slice (some ⟨g0, 0, none⟩) acc.length cap0) acc.length cs ∧ RowV (VIs wr (fun k => w.heap.size + 2 ≤ k ∧ k ≠ g0) f) acc cs ∧ RdSt wr b s st1 ∧ Glob wr ∧ w.grownBy wr (some b)) := ⟨hk, hT, hc, hl1, bxC, bxA, ho, hrow, hr, hGr, hg⟩
        have hacc : acc.length ≤ 3000 := by omega
        clear hk hT hc hl1 bxC bxA ho hrow hr hGr hg
        go_wp2_with fail
        refine (mark_st _ b s st1 44 44 rfl (by decide) (by exact A.out.2.2.2.2.2.2.2.2.1)).mono ?_
        rintro e w2 ⟨rfl, h2, hg2⟩
        have D : Hid (RdSt w2 b s (if (st1.bind (markS 44)).isSome then st1.bind (markS 44) else st1.map (List.dropWhile isSp)) ∧ wr.grownBy w2 (some b) ∧ BoxIs w2 w.heap.size (.int .i64 0) (.int .i64 0) (.string ⟨#[]⟩) (.slice none 0 0) (.slice none 0 0) ∧ BoxIs w2 (w.heap.size + 1) (.int .i64 4) (.int .i64 0) (.string ⟨#[]⟩) (.slice none 0 0) (.slice (some ⟨g0, 0, none⟩) acc.length cap0) ∧ w2.ownsRow (w.heap.size + 2) 25 5 (.slice (some ⟨g0, 0, none⟩) acc.length cap0) acc.length cs ∧ RowV (VIs w2 (fun k => w.heap.size + 2 ≤ k ∧ k ≠ g0) f) acc cs ∧ Glob w2 ∧ w.grownBy w2 (some b)) := by
          obtain ⟨hk, hT, hc, hl1, bxC, bxA, ho, hrow, hr, hGr, hg⟩ := A.out
          exact ⟨h2, hg2, bxC.grown hg2 (by simp; omega), bxA.grown hg2 (by simp; omega), own_kept' ho hg2 (by omega), hrow.imp (fun x v h => h.grown hg2 (fun k hk e => by simp at e; omega)), hGr.grown hg2 (by intro k hk; cases hk; exact hb4), gb_trans hg hg2⟩
        clear h2 hg2
        obtain ⟨x0, x1, x2, x3, x4, y0, y1, y2, y3, y4⟩ := D.out.2.2.1.c
        obtain ⟨p0, p1, p2, p3, p4, -, -, -, p9, p10⟩ := D.out.2.2.2.1.c
        cases hm : (st1.bind (markS 44)).isSome with
        | true =>
          have HM := hidI hm
          have R2 : Hid (RdSt w2 b s (st1.bind (markS 44))) := by have := D.out.1; rw [if_pos hm] at this; exact this
          clear hm
          have call7 : Hid (∀ W, W.heap = w2.heap → W.os = w2.os → W.tape = w2.tape → W.output = w2.output → Calls Tryd.prog 8 #[.pointer (some ⟨b, 0, none⟩)] W fun e w' => ∃ (t : V) (st' : Option (List UInt8)) (a7 a8 : Option Addr) (c7 c8 : Nat),
              e = .returned (.agg #[.int .i64 t.kind, .int .i64 t.n, .string ⟨t.s.toArray⟩, .slice a7 t.keys.length c7, .slice a8 t.l.length c8]) ∧ VIs w' (fun k => w2.heap.size ≤ k) f t (.agg #[.int .i64 t.kind, .int .i64 t.n, .string ⟨t.s.toArray⟩, .slice a7 t.keys.length c7, .slice a8 t.l.length c8]) ∧ st.bind (listS (valS f)) = itemsT (valS f) (acc ++ [t]) st' ∧ togo st' < gk ∧ (st'.getD []).length < f ∧ RdSt w' b s st' ∧ w2.grownBy w' (some b)) := by
            intro W e1 e2 e3 e4
            obtain ⟨hk, hT, hc, hl1, -⟩ := A.out
            have hl2 : ((st1.bind (markS 44)).getD []).length < f := by
              cases st1 with
              | none => exact hf0
              | some l0 =>
                cases hs : markS 44 l0 with
                | none => simp only [Option.bind_some, hs]; exact hf0
                | some l =>
                  have := markS_len hs
                  simp only [Option.bind_some, hs, Option.getD_some] at hl1 ⊢
                  omega
            have hgW : w2.grownBy W (some b) := ⟨e2, e3, e4, by rw [e1]; exact Nat.le_refl _, fun k _ _ => by rw [e1]⟩
            refine (IH.out W b s _ (R2.out.of_heap (by rw [e1])) (D.out.2.2.2.2.2.2.1.same e1) hb4 hl2).mono ?_
            rintro e w' ⟨t, st', a7, a8, c7, c8, rfl, hv, hst, hr, hg⟩
            rw [e1] at hv
            obtain ⟨i1, i2⟩ := items_step (acc := acc) (valS_len f) HM.out hst
            refine ⟨t, st', a7, a8, c7, c8, rfl, hv, by rw [← hT, i1], by rw [hk]; exact i2, ?_, hr, gb_trans hgW hg⟩
            cases st' with
            | none => exact hf0
            | some l' =>
              cases hs : st1.bind (markS 44) with
              | none => rw [hs] at hst; cases hst
              | some l1 =>
                rw [hs] at hst hl2
                have := valS_len f l1 _ hst
                simp only [Option.getD_some] at hl2 ⊢
                simp only at this
                omega
          go_wp2_with fail
          go_region_law ((first | (refine step_appendV (by rfl) _ _ (by rfl) (w.heap.size + 2) (.slice (some ⟨g0, 0, none⟩) acc.length cap0) acc.length cs t0.kind t0.n ⟨t0.s.toArray⟩ a7 a8 t0.keys.length c7 t0.l.length c8 (by rfl) (by rfl) bx3.out.2.2 hsz3 (by omega) ?_; intro g cap w4 ho4 hg4 hgg4; obtain ⟨x0, x1, x2, x3, x4, y0, y1, y2, y3, y4⟩ := (bx3.out.1.grown (World.grownBy_alloc _ _ none) (by simp)).grown hg4 (hne4.out _ (by omega)) |>.c; obtain ⟨p0, p1, p2, p3, p4, -, -, -, p9, p10⟩ := (bx3.out.2.1.grown (World.grownBy_alloc _ _ none) (by simp)).grown hg4 (hne4.out _ (by omega)) |>.c) | (go_simp; go_at_call 8; refine (call7.out _ (by rfl) (by rfl) (by rfl) (by rfl)).mono ?_; rintro e w3 ⟨t0, st3, a7, a8, c7, c8, rfl, hv3, hT3, hl3, ht3, hr3, hg3⟩; have hsz3 : w.heap.size + 2 ≤ w3.heap.size := Nat.le_trans D.out.2.2.2.1.lt hg3.size; have bx3 : Hid (BoxIs w3 w.heap.size (.int .i64 0) (.int .i64 0) (.string ⟨#[]⟩) (.slice none 0 0) (.slice none 0 0) ∧ BoxIs w3 (w.heap.size + 1) (.int .i64 4) (.int .i64 0) (.string ⟨#[]⟩) (.slice none 0 0) (.slice (some ⟨g0, 0, none⟩) acc.length cap0) ∧ w3.ownsRow (w.heap.size + 2) 25 5 (.slice (some ⟨g0, 0, none⟩) acc.length cap0) acc.length cs) := ⟨D.out.2.2.1.grown hg3 (by simp; omega), D.out.2.2.2.1.grown hg3 (by simp; omega), own_kept' D.out.2.2.2.2.1 hg3 (by omega)⟩; have hne4 : Hid (∀ k, k < w.heap.size + 2 → some k ≠ (Value.slice (some ⟨g0, 0, none⟩) acc.length cap0).ownBlock) := (fun k hk e => by have := (bx3.out.2.2.lt k e.symm).1; omega); have k4 : ∀ o, (w3.alloc o).cell? ⟨w.heap.size + 1, 4, none⟩ = some (.slice (some ⟨g0, 0, none⟩) acc.length cap0) := fun o => (bx3.out.2.1.grown (World.grownBy_alloc w3 o none) (by simp)).c.2.2.2.2.1; have q4 := bx3.out.2.1.c.2.2.2.2.1; have V3 : Hid (_ ∧ _ ∧ _ ∧ _ ∧ _ ∧ _) := ⟨hv3, hT3, hl3, ht3, hr3, hg3⟩; clear hv3 hT3 hl3 ht3 hr3 hg3)))
          all_goals
            go_wp2_with fail
            obtain ⟨hv3, hT3, htg3, hl3, hr3, hg3⟩ := V3.out
            go_roundg (togo st3)
            case measure => exact htg3
            case rel =>
              refine listI_mk (g0 := g0) hbl bx3.out.1 bx3.out.2.1 bx3.out.2.2 (.inr rfl) (D.out.2.2.2.2.2.1.imp fun x v h => h.grown hg3 (fun k hk e => by simp at e; omega)) ?_ hT3.symm hl3 (by have := A.out.2.2.1; omega) hr3 (D.out.2.2.2.2.2.2.1.grown hg3 (by intro k hk; cases hk; exact hb4)) hb4 (gb_trans D.out.2.2.2.2.2.2.2 hg3) ho4 hg4 hgg4
              exact hv3.weak fun k hk => ⟨Nat.le_trans D.out.2.2.2.1.lt hk, fun e => by have := (D.out.2.2.2.2.1.lt g0 rfl).2; omega⟩
        | false =>
          have HM := hidI hm
          have R2 : Hid (RdSt w2 b s (st1.map (List.dropWhile isSp))) := by have := D.out.1; rw [if_neg (by rw [hm]; simp)] at this; exact this
          clear hm
          go_wp2_with fail
          refine (need_st _ b s _ 93 93 rfl (by decide) (by exact R2.out)).mono ?_
          rintro e w3 ⟨rfl, h3, hg3⟩
          have E : Hid (RdSt w3 b s ((st1.map (List.dropWhile isSp)).bind (markS 93)) ∧ w.grownBy w3 (some b) ∧ BoxIs w3 w.heap.size (.int .i64 0) (.int .i64 0) (.string ⟨#[]⟩) (.slice none 0 0) (.slice none 0 0) ∧ BoxIs w3 (w.heap.size + 1) (.int .i64 4) (.int .i64 0) (.string ⟨#[]⟩) (.slice none 0 0) (.slice (some ⟨g0, 0, none⟩) acc.length cap0) ∧ w3.ownsRow (w.heap.size + 2) 25 5 (.slice (some ⟨g0, 0, none⟩) acc.length cap0) acc.length cs ∧ RowV (VIs w3 (fun k => w.heap.size + 2 ≤ k ∧ k ≠ g0) f) acc cs) := by
            obtain ⟨d1, d2, bxC, bxA, ho, hrow, hGr, hg⟩ := D.out
            exact ⟨h3, gb_trans hg hg3, bxC.grown hg3 (by simp; omega), bxA.grown hg3 (by simp; omega), own_kept' ho hg3 (by omega), hrow.imp (fun x v h => h.grown hg3 (fun k hk e => by simp at e; omega))⟩
          clear h3 hg3 x0 x1 x2 x3 x4 y0 y1 y2 y3 y4 p0 p1 p2 p3 p4 p9 p10
          obtain ⟨x0, x1, x2, x3, x4, y0, y1, y2, y3, y4⟩ := E.out.2.2.1.c
          obtain ⟨p0, p1, p2, p3, p4, -⟩ := E.out.2.2.2.1.c
          obtain ⟨z0, z1, z2, z3, z4, -⟩ := (E.out.2.2.1.set (.int .i64 4) (.int .i64 0) (.string ⟨#[]⟩) (.slice none 0 0) (.slice (some ⟨g0, 0, none⟩) acc.length cap0)).c
          have Z : Hid (_ ∧ _ ∧ _ ∧ _ ∧ _) := ⟨z0, z1, z2, z3, z4⟩
          clear z0 z1 z2 z3 z4
          go_wp2_with fail
          obtain ⟨z0, z1, z2, z3, z4⟩ := Z.out
          refine bodyPost_ret (v := .agg #[.int .i64 4, .int .i64 0, .string ⟨#[]⟩, .slice none 0 0, .slice (some ⟨g0, 0, none⟩) acc.length cap0]) ?_ rfl ?_
          · simp only [set5] at z0 z1 z2 z3 z4
            simp [results, Tryd.results18, go_sem, z0, z1, z2, z3, z4]
          · obtain ⟨e1, e2, e3, e4, e5, e6⟩ := E.out
            have g5 := set5_gb w3 w.heap.size (.int .i64 4) (.int .i64 0) (.string ⟨#[]⟩) (.slice none 0 0) (.slice (some ⟨g0, 0, none⟩) acc.length cap0)
            refine ⟨⟨4, 0, [], [], acc⟩, (st1.map (List.dropWhile isSp)).bind (markS 93), none, some ⟨g0, 0, none⟩, 0, cap0, rfl, ?_, ?_, ?_, ?_⟩
            · refine ⟨_, _, rfl, by unfold I64; simp, by unfold I64; simp, by simp, ⟨by simp, .inl ⟨rfl, none, rfl⟩⟩, ?_⟩
              have e6' : RowV (VIs (set5 w3 w.heap.size (.int .i64 4) (.int .i64 0) (.string ⟨#[]⟩) (.slice none 0 0) (.slice (some ⟨g0, 0, none⟩) acc.length cap0)) (fun k => w.heap.size ≤ k) f) acc cs :=
                e6.imp fun x v h => (h.grown g5 (fun k hk e => by simp at e; omega)).weak fun k hk => by omega
              exact own_vals rfl (own_kept' e5 g5 (by omega)) e6' (fun k hk => by omega) (by unfold maxLen; simp only; omega)
            · rw [← A.out.2.1, items_end HM.out]
            · exact e1.of_heap (g5.block b e1.lt (by simp; omega))
            · exact gb_own e2 g5 (by intro k hk; cases hk; exact Nat.le_refl _)
end Go.Proofs.YtkboplcffailoaaDoor

/- What member of json's reader does, if value and With do what is said of them. -/
set_option linter.unusedSimpArgs false
set_option linter.unusedVariables false
namespace Go.Proofs.YtkboplcffailoaaDoor
open Go.RowKit

theorem VIs.form {w : World} {ok : Nat → Prop} {d : Nat} {t : V} {v : Value} (h : VIs w ok d t v) : ∃ (a7 a8 : Option Addr) (c7 c8 : Nat), v = (.agg #[.int .i64 t.kind, .int .i64 t.n, .string ⟨t.s.toArray⟩, .slice a7 t.keys.length c7, .slice a8 t.l.length c8]) := by
  match d, h with
  | d + 1, h =>
    obtain ⟨ks, ls, e, h1, h2, h3, h4, h5⟩ := h
    obtain ⟨a1, c1, rfl⟩ := h4.form
    obtain ⟨a2, c2, rfl⟩ := h5.form
    exact ⟨_, _, _, _, e⟩
theorem withV_paired {t : V} {key : List UInt8} {x : V} (hp : pairedV t = true) : pairedV (withV t key x) = true ∧ (withV t key x).l.length ≤ t.l.length + 1 := by
  have hk : t.kind = 5 ∧ t.keys.length = t.l.length := by simpa [pairedV] using hp
  unfold withV
  rw [if_pos hp]
  split
  · rename_i i hi
    have := (idxL_lt hi).1
    simp only [pairedV, Bool.and_eq_true, decide_eq_true_eq, List.length_append, List.length_cons, List.length_take, List.length_drop]
    omega
  · simp only [pairedV, Bool.and_eq_true, decide_eq_true_eq, List.length_append, List.length_cons, List.length_take, List.length_drop]
    omega
theorem memS_of {g : List UInt8 → Option (V × List UInt8)} {t x : V} {key : List UInt8} {st st1 st3 : Option (List UInt8)} (h1 : st.bind quotS = st1.map (fun l => (key, l))) (h3 : (st1.bind (markS 58)).bind g = st3.map (fun l => (x, l))) :
    st.bind (memS g t) = if (memV t key).isSome then none else st3.map (fun l => (withV t key x, l)) := by
  have e : st.bind (memS g t) = (st.bind quotS).bind fun q => (markS 58 q.2).bind fun l => (g l).bind fun p => if (memV t q.1).isSome then none else some (withV t q.1 p.1, p.2) := by
    cases st <;> rfl
  rw [e, h1]
  cases st1 with
  | none =>
    cases st3 with
    | none => simp
    | some l => cases h3
  | some l1 =>
    simp only [Option.map_some, Option.bind_some] at h3 ⊢
    cases hm : markS 58 l1 with
    | none =>
      rw [hm] at h3
      cases st3 with
      | none => simp
      | some l => cases h3
    | some l2 =>
      rw [hm] at h3
      simp only [Option.bind_some] at h3 ⊢
      rw [h3]
      cases st3 <;> simp

set_option maxRecDepth 100000 in
set_option maxHeartbeats 4000000 in
theorem member_st (hW : WithC) (f : Nat) (ih : ValC f) (w : World) (b B : Nat) (s : ByteArray) (st : Option (List UInt8)) (t : V) (a7 a8 : Option Addr) (c7 c8 : Nat) (h : RdSt w b s st) (hG : Glob w) (hb4 : 4 ≤ b) (hf0 : 0 < f) (hlen : (st.getD []).length < f + 1) (hbB : b < B) (hBw : B ≤ w.heap.size)
    (hv : VIs w (fun k => B ≤ k) (f + 1) t (.agg #[.int .i64 t.kind, .int .i64 t.n, .string ⟨t.s.toArray⟩, .slice a7 t.keys.length c7, .slice a8 t.l.length c8])) (hp : pairedV t = true) (htl : t.l.length ≤ 10000) :
    Calls Tryd.prog 36 #[.pointer (some ⟨b, 0, none⟩), (.agg #[.int .i64 t.kind, .int .i64 t.n, .string ⟨t.s.toArray⟩, .slice a7 t.keys.length c7, .slice a8 t.l.length c8])] w fun e w' => ∃ (t' : V) (st' : Option (List UInt8)) (a5 a6 : Option Addr) (c5 c6 : Nat),
      e = .returned (.agg #[.int .i64 t'.kind, .int .i64 t'.n, .string ⟨t'.s.toArray⟩, .slice a5 t'.keys.length c5, .slice a6 t'.l.length c6]) ∧ VIs w' (fun k => B ≤ k) (f + 1) t' (.agg #[.int .i64 t'.kind, .int .i64 t'.n, .string ⟨t'.s.toArray⟩, .slice a5 t'.keys.length c5, .slice a6 t'.l.length c6]) ∧ pairedV t' = true ∧ t'.l.length ≤ t.l.length + 1 ∧
      st.bind (memS (valS f) t) = st'.map (fun l => (t', l)) ∧ RdSt w' b s st' ∧ w.grownBy w' (some b) := by
  have H : Hid (RdSt w b s st ∧ Glob w) := ⟨h, hG⟩
  have HV := hidI hv
  have IH := hidI ih
  have HW := hidI hW
  have HP := hidI hp
  have hbl := h.lt
  clear h hG hv ih hW hp
  go_enter Tryd.func36, Tryd.ntmps36
  go_wp2_with fail
  refine (quoted_st _ b s st (by exact H.out.1.grown (gb_alloc (World.grownBy_alloc w _ none) _) (by simp))).mono ?_
  rintro e w1 ⟨key, st1, rfl, hq, hkl, h1, hg1⟩
  have K1 : Hid (st.bind quotS = st1.map (fun l => (key, l)) ∧ RdSt w1 b s st1 ∧ w.grownBy w1 (some b) ∧ BoxIs w1 w.heap.size (.int .i64 t.kind) (.int .i64 t.n) (.string ⟨t.s.toArray⟩) (.slice a7 t.keys.length c7) (.slice a8 t.l.length c8) ∧ BoxIs w1 (w.heap.size + 1) (.int .i64 0) (.int .i64 0) (.string ⟨#[]⟩) (.slice none 0 0) (.slice none 0 0)) :=
    ⟨hq, h1, gb_trans (gb_alloc (gb_alloc (gb_refl _ _) _) _) hg1, BoxIs.grown (h2a w _ _) hg1 (by simp; omega), BoxIs.grown (h2b w _ _) hg1 (by simp; omega)⟩
  clear hq h1 hg1
  go_wp2_with fail
  refine (need_st _ b s st1 58 58 rfl (by decide) (by exact K1.out.2.1)).mono ?_
  rintro e w2 ⟨rfl, h2, hg2⟩
  have K2 : Hid (RdSt w2 b s (st1.bind (markS 58)) ∧ w.grownBy w2 (some b) ∧ BoxIs w2 w.heap.size (.int .i64 t.kind) (.int .i64 t.n) (.string ⟨t.s.toArray⟩) (.slice a7 t.keys.length c7) (.slice a8 t.l.length c8) ∧ BoxIs w2 (w.heap.size + 1) (.int .i64 0) (.int .i64 0) (.string ⟨#[]⟩) (.slice none 0 0) (.slice none 0 0) ∧ Glob w2) :=
    ⟨h2, gb_trans K1.out.2.2.1 hg2, K1.out.2.2.2.1.grown hg2 (by simp; omega), K1.out.2.2.2.2.grown hg2 (by simp; omega), H.out.2.grown (gb_trans K1.out.2.2.1 hg2) (by intro k hk; cases hk; exact hb4)⟩
  have hl2 : Hid (((st1.bind (markS 58)).getD []).length < f) := by
    show _ < _
    cases st1 with
    | none => exact hf0
    | some l1 =>
      cases hm : markS 58 l1 with
      | none => simp only [Option.bind_some, hm]; exact hf0
      | some l2 =>
        cases st with
        | none => have := K1.out.1; cases this
        | some l0 =>
          have h9 := quotS_len (show quotS l0 = some (key, l1) from K1.out.1)
          have := markS_len hm
          simp only [Option.bind_some, hm, Option.getD_some] at hlen ⊢
          simp only at h9
          omega
  clear h2 hg2
  go_wp2_with fail
  refine (IH.out _ b s _ (by exact K2.out.1) (by exact K2.out.2.2.2.2) hb4 hl2.out).mono ?_
  rintro e w3 ⟨x, st3, a5, a6, c5, c6, rfl, hx, hst3, h3, hg3⟩
  have K3 : Hid ((st1.bind (markS 58)).bind (valS f) = st3.map (fun l => (x, l)) ∧ RdSt w3 b s st3 ∧ w.grownBy w3 (some b) ∧ BoxIs w3 w.heap.size (.int .i64 t.kind) (.int .i64 t.n) (.string ⟨t.s.toArray⟩) (.slice a7 t.keys.length c7) (.slice a8 t.l.length c8) ∧ BoxIs w3 (w.heap.size + 1) (.int .i64 0) (.int .i64 0) (.string ⟨#[]⟩) (.slice none 0 0) (.slice none 0 0) ∧
      VIs w3 (fun k => B ≤ k ∧ k ≠ w.heap.size + 1) f x (.agg #[.int .i64 x.kind, .int .i64 x.n, .string ⟨x.s.toArray⟩, .slice a5 x.keys.length c5, .slice a6 x.l.length c6]) ∧ VIs w3 (fun k => B ≤ k ∧ k ≠ w.heap.size + 1) (f + 1) t (.agg #[.int .i64 t.kind, .int .i64 t.n, .string ⟨t.s.toArray⟩, .slice a7 t.keys.length c7, .slice a8 t.l.length c8])) :=
    ⟨hst3, h3, gb_trans K2.out.2.1 hg3, K2.out.2.2.1.grown hg3 (by simp; omega), K2.out.2.2.2.1.grown hg3 (by simp; omega), hx.weak (fun k hk => ⟨Nat.le_trans (Nat.le_trans hBw K2.out.2.1.size) hk, by have := K2.out.2.2.2.1.lt; omega⟩), (HV.out.below.weak (fun k hk => ⟨hk.1, by omega⟩)).grown (gb_trans K2.out.2.1 hg3) (fun k hk e => by cases e; omega)⟩
  have hsz3 : w.heap.size + 1 < w3.heap.size := K3.out.2.2.2.2.1.lt
  obtain ⟨p0, p1, p2, p3, p4, -⟩ := K3.out.2.2.2.1.c
  clear hst3 h3 hg3 hx
  have r0 : ∀ o, (w3.alloc o).cell? ⟨w.heap.size, 0, none⟩ = some (.int .i64 t.kind) := fun o => (K3.out.2.2.2.1.grown (World.grownBy_alloc w3 o none) (by simp)).c.1
  have r1 : ∀ o, (w3.alloc o).cell? ⟨w.heap.size, 1, none⟩ = some (.int .i64 t.n) := fun o => (K3.out.2.2.2.1.grown (World.grownBy_alloc w3 o none) (by simp)).c.2.1
  have r2 : ∀ o, (w3.alloc o).cell? ⟨w.heap.size, 2, none⟩ = some (.string ⟨t.s.toArray⟩) := fun o => (K3.out.2.2.2.1.grown (World.grownBy_alloc w3 o none) (by simp)).c.2.2.1
  have r3 : ∀ o, (w3.alloc o).cell? ⟨w.heap.size, 3, none⟩ = some (.slice a7 t.keys.length c7) := fun o => (K3.out.2.2.2.1.grown (World.grownBy_alloc w3 o none) (by simp)).c.2.2.2.1
  have r4 : ∀ o, (w3.alloc o).cell? ⟨w.heap.size, 4, none⟩ = some (.slice a8 t.l.length c8) := fun o => (K3.out.2.2.2.1.grown (World.grownBy_alloc w3 o none) (by simp)).c.2.2.2.2.1
  go_wp2_with fail
  refine (member_at _ (fun k => B ≤ k ∧ k ≠ w.heap.size + 1) (f + 1) t _ key (by exact K3.out.2.2.2.2.2.2.bel (bel_alloc _ _))).mono ?_
  rintro e w4 ⟨xm, bm, rfl, hb4', hmem⟩
  have B4 : Hid (Below w3.heap.size w3 w4) := bel_trans (bel_alloc _ _) hb4'
  have bxX : Hid (BoxIs w4 w3.heap.size (.int .i64 x.kind) (.int .i64 x.n) (.string ⟨x.s.toArray⟩) (.slice a5 x.keys.length c5) (.slice a6 x.l.length c6)) := box_bel hb4' (heap_alloc_new w3 _)
  have hsz4 : w3.heap.size < w4.heap.size := bxX.out.lt
  clear hb4' p0 p1 p2 p3 p4 r0 r1 r2 r3 r4
  have bxV : Hid (∀ o, BoxIs (w4.alloc o) w.heap.size (.int .i64 t.kind) (.int .i64 t.n) (.string ⟨t.s.toArray⟩) (.slice a7 t.keys.length c7) (.slice a8 t.l.length c8) ∧ BoxIs (w4.alloc o) w3.heap.size (.int .i64 x.kind) (.int .i64 x.n) (.string ⟨x.s.toArray⟩) (.slice a5 x.keys.length c5) (.slice a6 x.l.length c6) ∧ BoxIs (w4.alloc o) (w.heap.size + 1) (.int .i64 0) (.int .i64 0) (.string ⟨#[]⟩) (.slice none 0 0) (.slice none 0 0)) :=
    fun o => ⟨box_bel (bel_trans B4.out (bel_alloc w4 o)) K3.out.2.2.2.1, box_bel (bel_alloc w4 o) bxX.out, box_bel (bel_trans B4.out (bel_alloc w4 o)) K3.out.2.2.2.2.1⟩
  have s0 : ∀ o, (w4.alloc o).cell? ⟨w.heap.size, 0, none⟩ = some (.int .i64 t.kind) := fun o => (bxV.out o).1.c.1
  have s1 : ∀ o, (w4.alloc o).cell? ⟨w.heap.size, 1, none⟩ = some (.int .i64 t.n) := fun o => (bxV.out o).1.c.2.1
  have s2 : ∀ o, (w4.alloc o).cell? ⟨w.heap.size, 2, none⟩ = some (.string ⟨t.s.toArray⟩) := fun o => (bxV.out o).1.c.2.2.1
  have s3 : ∀ o, (w4.alloc o).cell? ⟨w.heap.size, 3, none⟩ = some (.slice a7 t.keys.length c7) := fun o => (bxV.out o).1.c.2.2.2.1
  have s4 : ∀ o, (w4.alloc o).cell? ⟨w.heap.size, 4, none⟩ = some (.slice a8 t.l.length c8) := fun o => (bxV.out o).1.c.2.2.2.2.1
  have v0 : ∀ o, (w4.alloc o).cell? ⟨w3.heap.size, 0, none⟩ = some (.int .i64 x.kind) := fun o => (bxV.out o).2.1.c.1
  have v1 : ∀ o, (w4.alloc o).cell? ⟨w3.heap.size, 1, none⟩ = some (.int .i64 x.n) := fun o => (bxV.out o).2.1.c.2.1
  have v2 : ∀ o, (w4.alloc o).cell? ⟨w3.heap.size, 2, none⟩ = some (.string ⟨x.s.toArray⟩) := fun o => (bxV.out o).2.1.c.2.2.1
  have v3 : ∀ o, (w4.alloc o).cell? ⟨w3.heap.size, 3, none⟩ = some (.slice a5 x.keys.length c5) := fun o => (bxV.out o).2.1.c.2.2.2.1
  have v4 : ∀ o, (w4.alloc o).cell? ⟨w3.heap.size, 4, none⟩ = some (.slice a6 x.l.length c6) := fun o => (bxV.out o).2.1.c.2.2.2.2.1
  have hws : Hid (st.bind (memS (valS f) t) = if (memV t key).isSome then none else st3.map (fun l => (withV t key x, l))) := memS_of K1.out.1 K3.out.1
  have hklm : key.length ≤ maxLen := by unfold maxLen; omega
  cases hmv : memV t key with
  | none =>
    rw [hmv] at hmem hws
    obtain ⟨rfl, rfl⟩ := hmem
    unfold leaf str
    go_wp2_with fail
    refine (HW.out _ (fun k => B ≤ k ∧ k ≠ w.heap.size + 1) f t x _ _ key (by exact K3.out.2.2.2.2.2.2.bel (bel_trans B4.out (bel_alloc _ _))) (by exact K3.out.2.2.2.2.2.1.bel (bel_trans B4.out (bel_alloc _ _))) HP.out (by omega) hklm).mono ?_
    rintro e w5 ⟨r, rfl, hr5, hb5⟩
    obtain ⟨e5, e6, d5, d6, rfl⟩ := hr5.form
    have G5 : Hid (VIs w5 (fun k => B ≤ k ∧ k ≠ w.heap.size + 1) (f + 1) (withV t key x) (.agg #[.int .i64 (withV t key x).kind, .int .i64 (withV t key x).n, .string ⟨(withV t key x).s.toArray⟩, .slice e5 (withV t key x).keys.length d5, .slice e6 (withV t key x).l.length d6]) ∧ w.grownBy w5 (some b) ∧ RdSt w5 b s st3 ∧ BoxIs w5 (w.heap.size + 1) (.int .i64 0) (.int .i64 0) (.string ⟨#[]⟩) (.slice none 0 0) (.slice none 0 0)) := by
      refine ⟨hr5.weak fun k hk => ?_, ?_, ?_, ?_⟩
      · rcases hk with hk | hk
        · exact hk
        · have := K3.out.2.2.1.size
          simp at hk
          exact ⟨by omega, by omega⟩
      · exact gb_own (gb_own (gb_own K3.out.2.2.1 (gb_below (r := none) B4.out) (by simp)) (World.grownBy_alloc w4 _ none) (by simp)) (gb_below (r := none) hb5) (by simp)
      · exact K3.out.2.1.of_heap (((gb_trans (gb_trans (gb_below (r := none) B4.out) (World.grownBy_alloc w4 _ none)) (gb_below hb5)).block b K3.out.2.1.lt (by simp)))
      · exact box_bel hb5 (bxV.out _).2.2
    clear hr5 hb5
    obtain ⟨x0, x1, x2, x3, x4, y0, y1, y2, y3, y4⟩ := G5.out.2.2.2.c
    obtain ⟨z0, z1, z2, z3, z4, -⟩ := (G5.out.2.2.2.set (.int .i64 (withV t key x).kind) (.int .i64 (withV t key x).n) (.string ⟨(withV t key x).s.toArray⟩) (.slice e5 (withV t key x).keys.length d5) (.slice e6 (withV t key x).l.length d6)).c
    have Z : Hid (_ ∧ _ ∧ _ ∧ _ ∧ _) := ⟨z0, z1, z2, z3, z4⟩
    clear z0 z1 z2 z3 z4
    go_wp2_with fail
    obtain ⟨z0, z1, z2, z3, z4⟩ := Z.out
    refine bodyPost_ret (v := (.agg #[.int .i64 (withV t key x).kind, .int .i64 (withV t key x).n, .string ⟨(withV t key x).s.toArray⟩, .slice e5 (withV t key x).keys.length d5, .slice e6 (withV t key x).l.length d6])) ?_ rfl ?_
    · simp only [set5] at z0 z1 z2 z3 z4
      simp [results, Tryd.results36, go_sem, z0, z1, z2, z3, z4]
    · obtain ⟨g1, g2, g3, g4⟩ := G5.out
      have g5 := set5_gb w5 (w.heap.size + 1) (.int .i64 (withV t key x).kind) (.int .i64 (withV t key x).n) (.string ⟨(withV t key x).s.toArray⟩) (.slice e5 (withV t key x).keys.length d5) (.slice e6 (withV t key x).l.length d6)
      have hwp := withV_paired (key := key) (x := x) HP.out
      refine ⟨withV t key x, st3, e5, e6, d5, d6, rfl, ?_, hwp.1, hwp.2, ?_, g3.of_heap (g5.block b g3.lt (by simp; omega)), gb_own g2 g5 (by intro k hk; cases hk; omega)⟩
      · exact (g1.grown g5 (fun k hk e => by simp at e; exact hk.2 e)).weak fun k hk => hk.1
      · rw [hws.out]; rfl
  | some y =>
    rw [hmv] at hmem hws
    obtain ⟨rfl, hy⟩ := hmem
    obtain ⟨i5, i6, j5, j6, rfl⟩ := hy.form
    clear hy
    go_wp2_with fail
    refine (fail_st _ b s st3 (by exact K3.out.2.1.of_heap (((gb_trans (gb_below (r := none) B4.out) (World.grownBy_alloc w4 _ none))).block b K3.out.2.1.lt (by simp)))).mono ?_
    rintro e w6 ⟨rfl, h6, hg6⟩
    have G6 : Hid (RdSt w6 b s none ∧ w.grownBy w6 (some b) ∧ VIs w6 (fun k => B ≤ k ∧ k ≠ w.heap.size + 1) (f + 1) t (.agg #[.int .i64 t.kind, .int .i64 t.n, .string ⟨t.s.toArray⟩, .slice a7 t.keys.length c7, .slice a8 t.l.length c8]) ∧ VIs w6 (fun k => B ≤ k ∧ k ≠ w.heap.size + 1) f x (.agg #[.int .i64 x.kind, .int .i64 x.n, .string ⟨x.s.toArray⟩, .slice a5 x.keys.length c5, .slice a6 x.l.length c6]) ∧ BoxIs w6 (w.heap.size + 1) (.int .i64 0) (.int .i64 0) (.string ⟨#[]⟩) (.slice none 0 0) (.slice none 0 0) ∧ w.heap.size ≤ w6.heap.size) := by
      have ga : w3.grownBy w6 (some b) := gb_trans (gb_trans (gb_below B4.out) (World.grownBy_alloc w4 _ _)) hg6
      exact ⟨h6, gb_trans K3.out.2.2.1 ga, K3.out.2.2.2.2.2.2.grown ga (fun k hk e => by cases e; omega), K3.out.2.2.2.2.2.1.grown ga (fun k hk e => by cases e; omega), K3.out.2.2.2.2.1.grown ga (by simp; omega), Nat.le_trans K3.out.2.2.1.size ga.size⟩
    have t0 := (bxV.out (.cells #[.int .i64 y.kind, .int .i64 y.n, .string ⟨y.s.toArray⟩, .slice i5 y.keys.length j5, .slice i6 y.l.length j6] 25))
    obtain ⟨s0', s1', s2', s3', s4', -⟩ := (t0.1.grown hg6 (by simp; omega)).c
    obtain ⟨v0', v1', v2', v3', v4', -⟩ := (t0.2.1.grown hg6 (by simp; have := K3.out.2.2.1.size; omega)).c
    have hsz6 := hg6.size
    clear h6 hg6 t0
    go_wp2_with fail
    refine (HW.out _ (fun k => B ≤ k ∧ k ≠ w.heap.size + 1) f t x _ _ key (by exact G6.out.2.2.1) (by exact G6.out.2.2.2.1) HP.out (by omega) hklm).mono ?_
    rintro e w5 ⟨r, rfl, hr5, hb5⟩
    obtain ⟨e5, e6, d5, d6, rfl⟩ := hr5.form
    have G5 : Hid (VIs w5 (fun k => B ≤ k ∧ k ≠ w.heap.size + 1) (f + 1) (withV t key x) (.agg #[.int .i64 (withV t key x).kind, .int .i64 (withV t key x).n, .string ⟨(withV t key x).s.toArray⟩, .slice e5 (withV t key x).keys.length d5, .slice e6 (withV t key x).l.length d6]) ∧ w.grownBy w5 (some b) ∧ RdSt w5 b s (none : Option (List UInt8)) ∧ BoxIs w5 (w.heap.size + 1) (.int .i64 0) (.int .i64 0) (.string ⟨#[]⟩) (.slice none 0 0) (.slice none 0 0)) := by
      refine ⟨hr5.weak fun k hk => ?_, ?_, ?_, ?_⟩
      · rcases hk with hk | hk
        · exact hk
        · have := G6.out.2.2.2.2.2
          exact ⟨by omega, by have := G6.out.2.2.2.2.1.lt; omega⟩
      · exact gb_own (gb_trans G6.out.2.1 (gb_refl _ _)) (gb_below (r := none) hb5) (by simp)
      · exact G6.out.1.of_heap ((gb_below (r := none) hb5).block b G6.out.1.lt (by simp))
      · exact box_bel hb5 G6.out.2.2.2.2.1
    clear hr5 hb5
    obtain ⟨x0, x1, x2, x3, x4, y0, y1, y2, y3, y4⟩ := G5.out.2.2.2.c
    obtain ⟨z0, z1, z2, z3, z4, -⟩ := (G5.out.2.2.2.set (.int .i64 (withV t key x).kind) (.int .i64 (withV t key x).n) (.string ⟨(withV t key x).s.toArray⟩) (.slice e5 (withV t key x).keys.length d5) (.slice e6 (withV t key x).l.length d6)).c
    have Z : Hid (_ ∧ _ ∧ _ ∧ _ ∧ _) := ⟨z0, z1, z2, z3, z4⟩
    clear z0 z1 z2 z3 z4
    go_wp2_with fail
    obtain ⟨z0, z1, z2, z3, z4⟩ := Z.out
    refine bodyPost_ret (v := (.agg #[.int .i64 (withV t key x).kind, .int .i64 (withV t key x).n, .string ⟨(withV t key x).s.toArray⟩, .slice e5 (withV t key x).keys.length d5, .slice e6 (withV t key x).l.length d6])) ?_ rfl ?_
    · simp only [set5] at z0 z1 z2 z3 z4
      simp [results, Tryd.results36, go_sem, z0, z1, z2, z3, z4]
    · obtain ⟨g1, g2, g3, g4⟩ := G5.out
      have g5 := set5_gb w5 (w.heap.size + 1) (.int .i64 (withV t key x).kind) (.int .i64 (withV t key x).n) (.string ⟨(withV t key x).s.toArray⟩) (.slice e5 (withV t key x).keys.length d5) (.slice e6 (withV t key x).l.length d6)
      have hwp := withV_paired (key := key) (x := x) HP.out
      refine ⟨withV t key x, (none : Option (List UInt8)), e5, e6, d5, d6, rfl, ?_, hwp.1, hwp.2, ?_, g3.of_heap (g5.block b g3.lt (by simp; omega)), gb_own g2 g5 (by intro k hk; cases hk; omega)⟩
      · exact (g1.grown g5 (fun k hk e => by simp at e; exact hk.2 e)).weak fun k hk => hk.1
      · rw [hws.out]; rfl
end Go.Proofs.YtkboplcffailoaaDoor

/- What object of json's reader does, if value and With do what is said of them. -/
set_option linter.unusedSimpArgs false
set_option linter.unusedVariables false
namespace Go.Proofs.YtkboplcffailoaaDoor
open Go.RowKit

theorem membsS_fuel {g : List UInt8 → Option (V × List UInt8)} (hg : Less g) (n : Nat) : ∀ (m : Nat) (v : V) (l : List UInt8), l.length < n → l.length < m → membsS g n v l = membsS g m v l := by
  induction n with
  | zero => intro m v l h; omega
  | succ n ih =>
    intro m v l h1 h2
    cases m with
    | zero => omega
    | succ m =>
      simp only [membsS]
      split
      · rename_i r hr
        have := markS_len hr
        cases hgr : memS g v r with
        | none => rfl
        | some p =>
          have := memS_len hg _ _ _ hgr
          exact ih m _ _ (by omega) (by omega)
      · rfl
def membsT (g : List UInt8 → Option (V × List UInt8)) (v : V) (st : Option (List UInt8)) : Option (V × List UInt8) := st.bind fun l => membsS g (l.length + 1) v l
theorem membs_step {g : List UInt8 → Option (V × List UInt8)} (hg : Less g) {v t0 : V} {st1 st3 : Option (List UInt8)} (h2 : (st1.bind (markS 44)).isSome = true) (h3 : (st1.bind (markS 44)).bind (memS g v) = st3.map (fun l => (t0, l))) :
    membsT g v st1 = membsT g t0 st3 ∧ togo st3 < togo st1 := by
  cases st1 with
  | none => cases h2
  | some l =>
    cases hm : markS 44 l with
    | none => simp [hm] at h2
    | some r =>
      have hr := markS_len hm
      simp only [Option.bind_some, hm] at h3
      have e : membsT g v (some l) = (memS g v r).bind fun p => membsS g l.length p.1 p.2 := by
        show membsS g (l.length + 1) v l = _
        simp only [membsS, hm]
      rw [e, h3]
      cases st3 with
      | none => exact ⟨rfl, by simp [togo]⟩
      | some l3 =>
        have hl := memS_len hg _ _ _ h3
        simp only at hl
        exact ⟨membsS_fuel hg _ _ _ _ (by simp only; omega) (by simp only; omega), by simp only [togo]; omega⟩
theorem membs_end {g : List UInt8 → Option (V × List UInt8)} {v : V} {st1 : Option (List UInt8)} (h2 : (st1.bind (markS 44)).isSome = false) :
    membsT g v st1 = ((st1.map (List.dropWhile isSp)).bind (markS 125)).map fun r => (v, r) := by
  cases st1 with
  | none => rfl
  | some l =>
    cases hm : markS 44 l with
    | some r => simp [hm] at h2
    | none =>
      show membsS g (l.length + 1) v l = _
      simp only [membsS, hm]; rfl
theorem objS_next {g : List UInt8 → Option (V × List UInt8)} {st : Option (List UInt8)} :
    st.bind (objS g) = (st.bind (markS 123)).bind fun l => match markS 125 l with | some r => some (⟨5, 0, [], [], []⟩, r) | none => (memS g ⟨5, 0, [], [], []⟩ (l.dropWhile isSp)).bind fun p => membsS g (p.2.length + 1) p.1 p.2 := by
  cases st <;> rfl
theorem obj_first {g : List UInt8 → Option (V × List UInt8)} {st st3 : Option (List UInt8)} {t0 : V} (h2 : ((st.bind (markS 123)).bind (markS 125)).isSome = false)
    (h3 : ((st.bind (markS 123)).map (List.dropWhile isSp)).bind (memS g ⟨5, 0, [], [], []⟩) = st3.map (fun l => (t0, l))) : st.bind (objS g) = membsT g t0 st3 := by
  rw [objS_next]
  cases hs : st.bind (markS 123) with
  | none =>
    rw [hs] at h3
    cases st3 with
    | none => rfl
    | some l => cases h3
  | some l =>
    rw [hs] at h2 h3
    simp only [Option.bind_some] at h2 ⊢
    have hm : markS 125 l = none := by cases hm : markS 125 l with
      | none => rfl
      | some r => simp [hm] at h2
    rw [hm]
    have h3' : memS g ⟨5, 0, [], [], []⟩ (l.dropWhile isSp) = st3.map (fun l => (t0, l)) := h3
    simp only [h3']
    cases st3 <;> rfl

/- What holds ahead of each comma. -/
def ObjI (f : Nat) (w : World) (b : Nat) (s : ByteArray) (T : Option (V × List UInt8)) (k : Nat) (wr : World) : Prop :=
  ∃ (t : V) (st1 : Option (List UInt8)) (a7 a8 : Option Addr) (c7 c8 : Nat), k = togo st1 ∧ membsT (valS f) t st1 = T ∧ t.l.length + k ≤ 3000 ∧ (st1.getD []).length < f + 1 ∧ BoxIs wr w.heap.size (.int .i64 0) (.int .i64 0) (.string ⟨#[]⟩) (.slice none 0 0) (.slice none 0 0) ∧ BoxIs wr (w.heap.size + 1) (.int .i64 t.kind) (.int .i64 t.n) (.string ⟨t.s.toArray⟩) (.slice a7 t.keys.length c7) (.slice a8 t.l.length c8) ∧
    VIs wr (fun k => w.heap.size + 2 ≤ k) (f + 1) t (.agg #[.int .i64 t.kind, .int .i64 t.n, .string ⟨t.s.toArray⟩, .slice a7 t.keys.length c7, .slice a8 t.l.length c8]) ∧ pairedV t = true ∧ RdSt wr b s st1 ∧ Glob wr ∧ w.grownBy wr (some b)

theorem objI_mk {f : Nat} {w w3 : World} {b : Nat} {s : ByteArray} {T : Option (V × List UInt8)} {t : V} {st3 : Option (List UInt8)} {a7 a8 : Option Addr} {c7 c8 : Nat} {d0 d1 d2 d3 d4 : Value} (hb4 : 4 ≤ b) (hbl : b < w.heap.size)
    (bxC : BoxIs w3 w.heap.size (.int .i64 0) (.int .i64 0) (.string ⟨#[]⟩) (.slice none 0 0) (.slice none 0 0)) (bxA : BoxIs w3 (w.heap.size + 1) d0 d1 d2 d3 d4) (hv : VIs w3 (fun k => w.heap.size + 2 ≤ k) (f + 1) t (.agg #[.int .i64 t.kind, .int .i64 t.n, .string ⟨t.s.toArray⟩, .slice a7 t.keys.length c7, .slice a8 t.l.length c8])) (hp : pairedV t = true) (hT : membsT (valS f) t st3 = T) (hl : (st3.getD []).length < f + 1) (hc : t.l.length + togo st3 ≤ 3000)
    (hr : RdSt w3 b s st3) (hG : Glob w3) (hg : w.grownBy w3 (some b)) : ObjI f w b s T (togo st3) (set5 w3 (w.heap.size + 1) (.int .i64 t.kind) (.int .i64 t.n) (.string ⟨t.s.toArray⟩) (.slice a7 t.keys.length c7) (.slice a8 t.l.length c8)) := by
  have g5 := set5_gb w3 (w.heap.size + 1) (.int .i64 t.kind) (.int .i64 t.n) (.string ⟨t.s.toArray⟩) (.slice a7 t.keys.length c7) (.slice a8 t.l.length c8)
  exact ⟨t, st3, a7, a8, c7, c8, rfl, hT, hc, hl, bxC.grown g5 (by simp), bxA.set _ _ _ _ _, hv.grown g5 (fun k hk e => by simp at e; omega), hp, hr.of_heap (g5.block b hr.lt (by simp; omega)),
    hG.grown g5 (fun k hk => by cases hk; omega), gb_own hg g5 (by intro k hk; cases hk; omega)⟩

set_option maxRecDepth 100000 in
set_option maxHeartbeats 4000000 in
theorem object_st (hW : WithC) (f : Nat) (ih : ValC f) (w : World) (b : Nat) (s : ByteArray) (st : Option (List UInt8)) (h : RdSt w b s st) (hG : Glob w) (hb4 : 4 ≤ b) (hf0 : 0 < f) (hlen : (st.getD []).length < f + 1) :
    Calls Tryd.prog 19 #[.pointer (some ⟨b, 0, none⟩)] w fun e w' => ∃ (t : V) (st' : Option (List UInt8)) (a7 a8 : Option Addr) (c7 c8 : Nat),
      e = .returned (.agg #[.int .i64 t.kind, .int .i64 t.n, .string ⟨t.s.toArray⟩, .slice a7 t.keys.length c7, .slice a8 t.l.length c8]) ∧ VIs w' (fun k => w.heap.size ≤ k) (f + 1) t (.agg #[.int .i64 t.kind, .int .i64 t.n, .string ⟨t.s.toArray⟩, .slice a7 t.keys.length c7, .slice a8 t.l.length c8]) ∧ st.bind (objS (valS f)) = st'.map (fun l => (t, l)) ∧ RdSt w' b s st' ∧ w.grownBy w' (some b) := by
  have H := hidI h
  have HG := hidI hG
  have IH := hidI ih
  have HW := hidI hW
  have hbl := h.lt
  clear h hG ih hW
  go_enter Tryd.func19, Tryd.ntmps19
  go_wp2_with fail
  refine (need_st _ b s st 123 123 rfl (by decide) (by exact H.out.grown (gb_alloc (World.grownBy_alloc w _ none) _) (by simp))).mono ?_
  rintro e w1 ⟨rfl, h1, hg1⟩
  have bx1 : Hid (BoxIs w1 w.heap.size (.int .i64 0) (.int .i64 0) (.string ⟨#[]⟩) (.slice none 0 0) (.slice none 0 0) ∧ BoxIs w1 (w.heap.size + 1) (.int .i64 5) (.int .i64 0) (.string ⟨#[]⟩) (.slice none 0 0) (.slice none 0 0)) :=
    ⟨BoxIs.grown (h2a w _ _) hg1 (by simp; omega), BoxIs.grown (h2b w _ _) hg1 (by simp; omega)⟩
  have G1 : Hid (RdSt w1 b s (st.bind (markS 123)) ∧ w.grownBy w1 (some b)) := ⟨h1, gb_trans (gb_alloc (gb_alloc (gb_refl _ _) _) _) hg1⟩
  clear h1 hg1
  go_wp2_with fail
  refine (mark_st _ b s (st.bind (markS 123)) 125 125 rfl (by decide) (by exact G1.out.1)).mono ?_
  rintro e w2 ⟨rfl, h2, hg2⟩
  have bx2 : Hid (BoxIs w2 w.heap.size (.int .i64 0) (.int .i64 0) (.string ⟨#[]⟩) (.slice none 0 0) (.slice none 0 0) ∧ BoxIs w2 (w.heap.size + 1) (.int .i64 5) (.int .i64 0) (.string ⟨#[]⟩) (.slice none 0 0) (.slice none 0 0)) := ⟨bx1.out.1.grown hg2 (by simp; omega), bx1.out.2.grown hg2 (by simp; omega)⟩
  have G2 : Hid (RdSt w2 b s (if ((st.bind (markS 123)).bind (markS 125)).isSome then (st.bind (markS 123)).bind (markS 125) else (st.bind (markS 123)).map (List.dropWhile isSp)) ∧ w.grownBy w2 (some b)) := ⟨h2, gb_trans G1.out.2 hg2⟩
  obtain ⟨x0, x1, x2, x3, x4, y0, y1, y2, y3, y4⟩ := bx2.out.1.c
  obtain ⟨p0, p1, p2, p3, p4, q0, q1, q2, q3, q4⟩ := bx2.out.2.c
  clear h2 hg2 bx1 G1
  cases hm : ((st.bind (markS 123)).bind (markS 125)).isSome with
  | true =>
    have HM := hidI hm
    obtain ⟨z0, z1, z2, z3, z4, -⟩ := (bx2.out.1.set (.int .i64 5) (.int .i64 0) (.string ⟨#[]⟩) (.slice none 0 0) (.slice none 0 0)).c
    have Z : Hid (_ ∧ _ ∧ _ ∧ _ ∧ _) := ⟨z0, z1, z2, z3, z4⟩
    clear z0 z1 z2 z3 z4 hm
    go_wp2_with fail
    obtain ⟨z0, z1, z2, z3, z4⟩ := Z.out
    refine bodyPost_ret (v := leaf 5 0 []) ?_ rfl ?_
    · simp only [set5, str] at z0 z1 z2 z3 z4
      simp [results, Tryd.results19, go_sem, z0, z1, z2, z3, z4, leaf, str]
    · refine ⟨leafV 5 0 [], (st.bind (markS 123)).bind (markS 125), none, none, 0, 0, rfl, leaf_is _ _ f _ _ _ (by unfold I64; omega) (by unfold I64; omega) (by simp), ?_, ?_, ?_⟩
      · rw [objS_next]
        cases hs : st.bind (markS 123) with
        | none => rw [hs] at HM; exact absurd HM.out (by simp)
        | some l =>
          rw [hs] at HM
          cases h9 : markS 125 l with
          | none => simp [h9] at HM; exact absurd HM.out (by simp)
          | some r => simp only [Option.bind_some, h9]; rfl
      · have := G2.out.1
        rw [if_pos HM.out] at this
        exact this.of_heap ((set5_gb w2 w.heap.size _ _ _ _ _).block b this.lt (by simp; omega))
      · exact gb_own G2.out.2 (set5_gb w2 w.heap.size _ _ _ _ _) (by intro k hk; cases hk; exact Nat.le_refl _)
  | false =>
    have HM := hidI hm
    have G3 : Hid (RdSt w2 b s ((st.bind (markS 123)).map (List.dropWhile isSp)) ∧ w.grownBy w2 (some b) ∧ Glob w2) := by
      have := G2.out.1
      rw [if_neg (by rw [HM.out]; simp)] at this
      exact ⟨this, G2.out.2, HG.out.grown G2.out.2 (by intro k hk; cases hk; exact hb4)⟩
    clear hm G2
    have call5 : Hid (Calls Tryd.prog 36 #[.pointer (some ⟨b, 0, none⟩), .agg #[.int .i64 5, .int .i64 0, .string ⟨#[]⟩, .slice none 0 0, .slice none 0 0]] w2 fun e w' => ∃ (t : V) (st' : Option (List UInt8)) (a7 a8 : Option Addr) (c7 c8 : Nat),
        e = .returned (.agg #[.int .i64 t.kind, .int .i64 t.n, .string ⟨t.s.toArray⟩, .slice a7 t.keys.length c7, .slice a8 t.l.length c8]) ∧ VIs w' (fun k => w.heap.size + 2 ≤ k) (f + 1) t (.agg #[.int .i64 t.kind, .int .i64 t.n, .string ⟨t.s.toArray⟩, .slice a7 t.keys.length c7, .slice a8 t.l.length c8]) ∧ pairedV t = true ∧ st.bind (objS (valS f)) = membsT (valS f) t st' ∧ (st'.getD []).length < f + 1 ∧ t.l.length + togo st' ≤ 3000 ∧ RdSt w' b s st' ∧ w2.grownBy w' (some b)) := by
      have hl2 : (((st.bind (markS 123)).map (List.dropWhile isSp)).getD []).length < f := by
        cases hs : st.bind (markS 123) with
        | none => exact hf0
        | some l =>
          cases st with
          | none => cases hs
          | some l0 =>
            have := markS_len (show markS 123 l0 = some l from hs)
            have := dropSp_len l
            simp only [Option.getD_some, Option.map_some] at hlen ⊢
            omega
      refine (member_st HW.out f IH.out w2 b (w.heap.size + 2) s _ ⟨5, 0, [], [], []⟩ none none 0 0 G3.out.1 G3.out.2.2 hb4 hf0 (by omega) (by omega) bx2.out.2.lt (leaf_is w2 _ f 5 0 [] (by unfold I64; omega) (by unfold I64; omega) (by simp)) rfl (by simp)).mono ?_
      rintro e w' ⟨t, st', a7, a8, c7, c8, rfl, hv, hp, htl, hst, hr, hg⟩
      refine ⟨t, st', a7, a8, c7, c8, rfl, hv, hp, obj_first HM.out hst, ?_, ?_, hr, hg⟩
      · cases st' with
        | none => simp
        | some l' =>
          cases hs : (st.bind (markS 123)).map (List.dropWhile isSp) with
          | none => rw [hs] at hst; cases hst
          | some l1 =>
            rw [hs] at hst hl2
            have := memS_len (valS_len f) _ l1 _ hst
            simp only [Option.getD_some] at hl2 ⊢
            simp only at this
            omega
      · simp only [List.length_nil] at htl
        cases st' with
        | none => simp only [togo]; omega
        | some l' => have := hr.len; simp only [togo]; omega
    go_wp2_with fail
    refine (call5.out).mono ?_
    rintro e w3 ⟨t, st3, a7, a8, c7, c8, rfl, hv3, hp3, hT3, hl3, hc3, hr3, hg3⟩
    have I0 : Hid (ObjI f w b s (st.bind (objS (valS f))) (togo st3) (set5 w3 (w.heap.size + 1) (.int .i64 t.kind) (.int .i64 t.n) (.string ⟨t.s.toArray⟩) (.slice a7 t.keys.length c7) (.slice a8 t.l.length c8))) :=
      objI_mk hb4 hbl (bx2.out.1.grown hg3 (by simp; omega)) (bx2.out.2.grown hg3 (by simp; omega)) hv3 hp3 hT3.symm hl3 hc3 hr3 (G3.out.2.2.grown hg3 (by intro k hk; cases hk; exact hb4)) (gb_trans G3.out.2.1 hg3)
    clear p0 p1 p2 p3 p4 q0 q1 q2 q3 q4
    obtain ⟨p0, p1, p2, p3, p4, q0, q1, q2, q3, q4⟩ := (bx2.out.2.grown hg3 (by simp; omega)).c
    clear hv3 hp3 hT3 hl3 hc3 hr3 hg3 x0 x1 x2 x3 x4 y0 y1 y2 y3 y4
    go_wp2_with fail
    go_loopg [] (togo st3) (fun k wr => ObjI f w b s (st.bind (objS (valS f))) k wr)
    case atStart => exact I0.out
    case round =>
      clear p0 p1 p2 p3 p4 q0 q1 q2 q3 q4 I0 call5 bx2 G3
      obtain ⟨t, st1, a7, a8, c7, c8, hk, hT, hc, hl1, bxC, bxA, hv, hp, hr, hGr, hg⟩ := hrel
      have A : Hid (gk = togo st1 ∧ membsT (valS f) t st1 = st.bind (objS (valS f)) ∧ t.l.length + gk ≤ 3000 ∧ (st1.getD []).length < f + 1 ∧ BoxIs wr w.heap.size (.int .i64 0) (.int .i64 0) (.string ⟨#[]⟩) (.slice none 0 0) (.slice none 0 0) ∧ BoxIs wr (w.heap.size + 1) (.int .i64 t.kind) (.int .i64 t.n) (.string ⟨t.s.toArray⟩) (.slice a7 t.keys.length c7) (.slice a8 t.l.length c8) ∧ VIs wr (fun k => w.heap.size + 2 ≤ k) (f + 1) t (.agg #[.int .i64 t.kind, .int .i64 t.n, .string ⟨t.s.toArray⟩, .slice a7 t.keys.length c7, .slice a8 t.l.length c8]) ∧ pairedV t = true ∧ RdSt wr b s st1 ∧ Glob wr ∧ w.grownBy wr (some b)) := ⟨hk, hT, hc, hl1, bxC, bxA, hv, hp, hr, hGr, hg⟩
      have htl : t.l.length ≤ 3000 := by omega
      clear hk hT hc hl1 bxC bxA hv hp hr hGr hg
      go_wp2_with fail
      refine (mark_st _ b s st1 44 44 rfl (by decide) (by exact A.out.2.2.2.2.2.2.2.2.1)).mono ?_
      rintro e w2 ⟨rfl, h2, hg2⟩
      have D : Hid (RdSt w2 b s (if (st1.bind (markS 44)).isSome then st1.bind (markS 44) else st1.map (List.dropWhile isSp)) ∧ BoxIs w2 w.heap.size (.int .i64 0) (.int .i64 0) (.string ⟨#[]⟩) (.slice none 0 0) (.slice none 0 0) ∧ BoxIs w2 (w.heap.size + 1) (.int .i64 t.kind) (.int .i64 t.n) (.string ⟨t.s.toArray⟩) (.slice a7 t.keys.length c7) (.slice a8 t.l.length c8) ∧ VIs w2 (fun k => w.heap.size + 2 ≤ k) (f + 1) t (.agg #[.int .i64 t.kind, .int .i64 t.n, .string ⟨t.s.toArray⟩, .slice a7 t.keys.length c7, .slice a8 t.l.length c8]) ∧ Glob w2 ∧ w.grownBy w2 (some b)) := by
        obtain ⟨hk, hT, hc, hl1, bxC, bxA, hv, hp, hr, hGr, hg⟩ := A.out
        exact ⟨h2, bxC.grown hg2 (by simp; omega), bxA.grown hg2 (by simp; omega), hv.grown hg2 (fun k hk e => by simp at e; omega), hGr.grown hg2 (by intro k hk; cases hk; exact hb4), gb_trans hg hg2⟩
      clear h2 hg2
      obtain ⟨p0, p1, p2, p3, p4, q0, q1, q2, q3, q4⟩ := D.out.2.2.1.c
      cases hm : (st1.bind (markS 44)).isSome with
      | true =>
        have HM := hidI hm
        have R2 : Hid (RdSt w2 b s (st1.bind (markS 44))) := by have := D.out.1; rw [if_pos hm] at this; exact this
        clear hm
        go_wp2_with fail
        have hl2 : Hid (((st1.bind (markS 44)).getD []).length < f + 1) := by
          show _ < _
          have hl1 := A.out.2.2.2.1
          cases st1 with
          | none => simp
          | some l0 =>
            cases hs : markS 44 l0 with
            | none => simp only [Option.bind_some, hs]; simp
            | some l =>
              have := markS_len hs
              simp only [Option.bind_some, hs, Option.getD_some] at hl1 ⊢
              omega
        refine (member_st HW.out f IH.out _ b (w.heap.size + 2) s _ t a7 a8 c7 c8 (by exact R2.out) (by exact D.out.2.2.2.2.1) hb4 hf0 hl2.out (by omega) (by exact D.out.2.2.1.lt) (by exact D.out.2.2.2.1) A.out.2.2.2.2.2.2.2.1 (by omega)).mono ?_
        rintro e w3 ⟨t', st3, a5, a6, c5, c6, rfl, hv3, hp3, htl3, hst3, hr3, hg3⟩
        have V3 : Hid (ObjI f w b s (st.bind (objS (valS f))) (togo st3) (set5 w3 (w.heap.size + 1) (.int .i64 t'.kind) (.int .i64 t'.n) (.string ⟨t'.s.toArray⟩) (.slice a5 t'.keys.length c5) (.slice a6 t'.l.length c6)) ∧ togo st3 < gk) := by
          obtain ⟨hk, hT, hc, hl1, -⟩ := A.out
          obtain ⟨i1, i2⟩ := membs_step (valS_len f) HM.out hst3
          refine ⟨objI_mk hb4 hbl (D.out.2.1.grown hg3 (by simp; omega)) (D.out.2.2.1.grown hg3 (by simp; omega)) hv3 hp3 (by rw [← hT, i1]) ?_ (by omega) hr3 (D.out.2.2.2.2.1.grown hg3 (by intro k hk; cases hk; exact hb4)) (gb_trans D.out.2.2.2.2.2 hg3), by rw [hk]; exact i2⟩
          cases st3 with
          | none => simp
          | some l' =>
            cases hs : st1.bind (markS 44) with
            | none => rw [hs] at hst3; cases hst3
            | some l1 =>
              rw [hs] at hst3
              have := memS_len (valS_len f) _ l1 _ hst3
              have h8 := hl2.out
              rw [hs] at h8
              simp only [Option.getD_some] at h8 ⊢
              simp only at this
              omega
        clear p0 p1 p2 p3 p4 q0 q1 q2 q3 q4
        obtain ⟨p0, p1, p2, p3, p4, q0, q1, q2, q3, q4⟩ := (D.out.2.2.1.grown hg3 (by simp; omega)).c
        clear hv3 hp3 htl3 hst3 hr3 hg3
        go_wp2_with fail
        go_roundg (togo st3)
        case measure => exact V3.out.2
        case rel => exact V3.out.1
      | false =>
        have HM := hidI hm
        have R2 : Hid (RdSt w2 b s (st1.map (List.dropWhile isSp))) := by have := D.out.1; rw [if_neg (by rw [hm]; simp)] at this; exact this
        clear hm
        go_wp2_with fail
        refine (need_st _ b s _ 125 125 rfl (by decide) (by exact R2.out)).mono ?_
        rintro e w3 ⟨rfl, h3, hg3⟩
        have E : Hid (RdSt w3 b s ((st1.map (List.dropWhile isSp)).bind (markS 125)) ∧ w.grownBy w3 (some b) ∧ BoxIs w3 w.heap.size (.int .i64 0) (.int .i64 0) (.string ⟨#[]⟩) (.slice none 0 0) (.slice none 0 0) ∧ BoxIs w3 (w.heap.size + 1) (.int .i64 t.kind) (.int .i64 t.n) (.string ⟨t.s.toArray⟩) (.slice a7 t.keys.length c7) (.slice a8 t.l.length c8) ∧ VIs w3 (fun k => w.heap.size + 2 ≤ k) (f + 1) t (.agg #[.int .i64 t.kind, .int .i64 t.n, .string ⟨t.s.toArray⟩, .slice a7 t.keys.length c7, .slice a8 t.l.length c8])) :=
          ⟨h3, gb_trans D.out.2.2.2.2.2 hg3, D.out.2.1.grown hg3 (by simp; omega), D.out.2.2.1.grown hg3 (by simp; omega), D.out.2.2.2.1.grown hg3 (fun k hk e => by simp at e; omega)⟩
        clear h3 hg3 p0 p1 p2 p3 p4 q0 q1 q2 q3 q4
        obtain ⟨x0, x1, x2, x3, x4, y0, y1, y2, y3, y4⟩ := E.out.2.2.1.c
        obtain ⟨p0, p1, p2, p3, p4, -⟩ := E.out.2.2.2.1.c
        obtain ⟨z0, z1, z2, z3, z4, -⟩ := (E.out.2.2.1.set (.int .i64 t.kind) (.int .i64 t.n) (.string ⟨t.s.toArray⟩) (.slice a7 t.keys.length c7) (.slice a8 t.l.length c8)).c
        have Z : Hid (_ ∧ _ ∧ _ ∧ _ ∧ _) := ⟨z0, z1, z2, z3, z4⟩
        clear z0 z1 z2 z3 z4
        go_wp2_with fail
        obtain ⟨z0, z1, z2, z3, z4⟩ := Z.out
        refine bodyPost_ret (v := (.agg #[.int .i64 t.kind, .int .i64 t.n, .string ⟨t.s.toArray⟩, .slice a7 t.keys.length c7, .slice a8 t.l.length c8])) ?_ rfl ?_
        · simp only [set5] at z0 z1 z2 z3 z4
          simp [results, Tryd.results19, go_sem, z0, z1, z2, z3, z4]
        · obtain ⟨e1, e2, e3, e4, e5⟩ := E.out
          have g5 := set5_gb w3 w.heap.size (.int .i64 t.kind) (.int .i64 t.n) (.string ⟨t.s.toArray⟩) (.slice a7 t.keys.length c7) (.slice a8 t.l.length c8)
          refine ⟨t, (st1.map (List.dropWhile isSp)).bind (markS 125), a7, a8, c7, c8, rfl, (e5.grown g5 (fun k hk e => by simp at e; omega)).weak (fun k hk => by omega), ?_, e1.of_heap (g5.block b e1.lt (by simp; omega)), gb_own e2 g5 (by intro k hk; cases hk; exact Nat.le_refl _)⟩
          rw [← A.out.2.1, membs_end HM.out]
end Go.Proofs.YtkboplcffailoaaDoor

/- What value of json's reader does: what valS says. -/
set_option linter.unusedSimpArgs false
set_option linter.unusedVariables false
namespace Go.Proofs.YtkboplcffailoaaDoor
open Go.RowKit

theorem spaces_st (w : World) (b : Nat) (s : ByteArray) (st : Option (List UInt8)) (h : RdSt w b s st) :
    Calls Tryd.prog 9 #[.pointer (some ⟨b, 0, none⟩)] w fun e w' => e = .returned (.tuple #[]) ∧ RdSt w' b s (st.map (List.dropWhile isSp)) ∧ w.grownBy w' (some b) := by
  refine (spaces_at w b s _ _ h).mono ?_
  rintro e w' ⟨he, hr, hg⟩
  refine ⟨he, ?_, hg⟩
  cases st with
  | none => exact hr
  | some l => exact hr
theorem valS_next (f : Nat) (st : Option (List UInt8)) : st.bind (valS (f + 1)) = (st.map (List.dropWhile isSp)).bind (oneS (valS f)) := by cases st <;> rfl
theorem hd_ne {l : List UInt8} {c : UInt8} {m : Int} (hm : m = (c.toNat : Int)) (h : hd0 l ≠ c) : (((hd0 l).toNat : Int) == m) = false := u8_ne hm h
theorem hd_eq {l : List UInt8} {c : UInt8} {m : Int} (hm : m = (c.toNat : Int)) (h : hd0 l = c) : (((hd0 l).toNat : Int) == m) = true := by rw [h, hm]; simp

/- The answer, put into the result's block. -/
theorem val_fin {f : Nat} {w w3 : World} {b : Nat} {s : ByteArray} {st st' : Option (List UInt8)} {t : V} {a7 a8 : Option Addr} {c7 c8 : Nat} (hbl : b < w.heap.size) (hv : VIs w3 (fun k => w.heap.size + 1 ≤ k) (f + 1) t (.agg #[.int .i64 t.kind, .int .i64 t.n, .string ⟨t.s.toArray⟩, .slice a7 t.keys.length c7, .slice a8 t.l.length c8]))
    (hst : st.bind (valS (f + 1)) = st'.map (fun l => (t, l))) (hr : RdSt w3 b s st') (hg : w.grownBy w3 (some b)) (hbx : BoxIs w3 w.heap.size (.int .i64 0) (.int .i64 0) (.string ⟨#[]⟩) (.slice none 0 0) (.slice none 0 0)) :
    BoxIs (set5 w3 w.heap.size (.int .i64 t.kind) (.int .i64 t.n) (.string ⟨t.s.toArray⟩) (.slice a7 t.keys.length c7) (.slice a8 t.l.length c8)) w.heap.size (.int .i64 t.kind) (.int .i64 t.n) (.string ⟨t.s.toArray⟩) (.slice a7 t.keys.length c7) (.slice a8 t.l.length c8) ∧ VIs (set5 w3 w.heap.size (.int .i64 t.kind) (.int .i64 t.n) (.string ⟨t.s.toArray⟩) (.slice a7 t.keys.length c7) (.slice a8 t.l.length c8)) (fun k => w.heap.size ≤ k) (f + 1) t (.agg #[.int .i64 t.kind, .int .i64 t.n, .string ⟨t.s.toArray⟩, .slice a7 t.keys.length c7, .slice a8 t.l.length c8]) ∧ RdSt (set5 w3 w.heap.size (.int .i64 t.kind) (.int .i64 t.n) (.string ⟨t.s.toArray⟩) (.slice a7 t.keys.length c7) (.slice a8 t.l.length c8)) b s st' ∧ w.grownBy (set5 w3 w.heap.size (.int .i64 t.kind) (.int .i64 t.n) (.string ⟨t.s.toArray⟩) (.slice a7 t.keys.length c7) (.slice a8 t.l.length c8)) (some b) := by
  have g5 := set5_gb w3 w.heap.size (.int .i64 t.kind) (.int .i64 t.n) (.string ⟨t.s.toArray⟩) (.slice a7 t.keys.length c7) (.slice a8 t.l.length c8)
  exact ⟨hbx.set _ _ _ _ _, (hv.grown g5 (fun k hk e => by simp at e; omega)).weak (fun k hk => by omega), hr.of_heap (g5.block b hr.lt (by simp; omega)), gb_own hg g5 (by intro k hk; cases hk; exact Nat.le_refl _)⟩

set_option maxRecDepth 100000 in
set_option maxHeartbeats 8000000 in
theorem value_succ (hW : WithC) (f : Nat) (ih : ValC f) : ValC (f + 1) := by
  intro w b s st h hG hb4 hlen
  have H := hidI h
  have HG := hidI hG
  have IH := hidI ih
  have HW := hidI hW
  have hbl := h.lt
  clear h hG ih hW
  go_enter Tryd.func8, Tryd.ntmps8
  go_wp2_with fail
  refine (spaces_st _ b s st (by exact H.out.grown (World.grownBy_alloc w _ none) (by simp))).mono ?_
  rintro e w1 ⟨rfl, h1, hg1⟩
  have K1 : Hid (RdSt w1 b s (st.map (List.dropWhile isSp)) ∧ w.grownBy w1 (some b) ∧ BoxIs w1 w.heap.size (.int .i64 0) (.int .i64 0) (.string ⟨#[]⟩) (.slice none 0 0) (.slice none 0 0) ∧ Glob w1) := by
    have g := gb_trans (gb_alloc (gb_refl w (some b)) _) hg1
    exact ⟨h1, g, BoxIs.grown (heap_alloc_new w _) hg1 (by simp; omega), HG.out.grown g (by intro k hk; cases hk; exact hb4)⟩
  clear h1 hg1
  go_wp2_with fail
  refine (ahead_at _ b s ((st.map (List.dropWhile isSp)).getD []) (st.map (List.dropWhile isSp)).isNone (by exact K1.out.1)).mono ?_
  rintro e w2 ⟨rfl, n2, hw2⟩
  have K2 : Hid (RdSt w2 b s (st.map (List.dropWhile isSp)) ∧ w.grownBy w2 (some b) ∧ BoxIs w2 w.heap.size (.int .i64 0) (.int .i64 0) (.string ⟨#[]⟩) (.slice none 0 0) (.slice none 0 0) ∧ Glob w2) := by
    rw [hw2]; exact ⟨K1.out.1.of_heap rfl, gb_drewN K1.out.2.1 _, K1.out.2.2.1, K1.out.2.2.2.same rfl⟩
  have hsz2 : w.heap.size + 1 ≤ w2.heap.size := K2.out.2.2.1.lt
  clear hw2 K1
  have N : Hid (st.bind (valS (f + 1)) = (st.map (List.dropWhile isSp)).bind (oneS (valS f))) := valS_next f st
  have hlen2 : Hid ((((st.map (List.dropWhile isSp)).getD []).length < f + 1)) := by
    show _ < _
    cases st with
    | none => simp
    | some l => have := dropSp_len l; simp only [Option.getD_some, Option.map_some] at hlen ⊢; omega
  obtain ⟨st1, hst1⟩ : ∃ st1, st1 = st.map (List.dropWhile isSp) := ⟨_, rfl⟩
  rw [← hst1] at K2 N hlen2 ⊢
  have HST := hidI hst1
  clear hst1
  by_cases q110 : hd0 (st1.getD []) = 110
  · have d := hd_eq (m := 110) rfl q110
    have E : Hid (st1.bind (oneS (valS f)) = (st1.bind (wordS [110, 117, 108, 108])).map fun r => (leafV 0 0 [], r)) := by
      cases st1 with
      | none => rfl
      | some l =>
        have q : hd0 l = 110 := q110
        show oneS (valS f) l = _
        simp only [oneS, q]
        rfl
    go_wp2_with fail
    refine (word_st _ b s st1 ⟨#[110, 117, 108, 108]⟩ 0 0 (by unfold I64; omega) (by unfold I64; omega) (by decide) (by decide) (by exact K2.out.1)).mono ?_
    rintro e w3 ⟨t, v, st3, rfl, ⟨kk, nn, rfl, rfl, hkk, hnn⟩, hst3, hr3, hg3⟩
    have HSTF : Hid (st.bind (valS (f + 1)) = st3.map (fun l => (leafV kk nn [], l))) := by show _ = _; rw [N.out, E.out]; exact hst3
    have HBX : BoxIs w3 w.heap.size (.int .i64 0) (.int .i64 0) (.string ⟨#[]⟩) (.slice none 0 0) (.slice none 0 0) := K2.out.2.2.1.grown hg3 (by simp; omega)
    have HVV : VIs w3 (fun k => w.heap.size + 1 ≤ k) (f + 1) (leafV kk nn []) (leaf kk nn []) := leaf_is _ _ f _ _ _ hkk hnn (by simp)
    have HGG := gb_trans K2.out.2.1 hg3
    have HRR := hr3
    have HST2 := HSTF.out
    clear hst3 hr3 hg3
    unfold leaf str
    have FIN := hidI (val_fin (f := f) (a7 := none) (a8 := none) (c7 := 0) (c8 := 0) hbl HVV HST2 HRR HGG HBX)
    obtain ⟨x0, x1, x2, x3, x4, y0, y1, y2, y3, y4⟩ := HBX.c
    obtain ⟨z0, z1, z2, z3, z4, -⟩ := (HBX.set (.int .i64 kk) (.int .i64 nn) (.string ⟨#[]⟩) (.slice none 0 0) (.slice none 0 0)).c
    clear HVV HST2 HRR HGG HBX
    have Z : Hid (_ ∧ _ ∧ _ ∧ _ ∧ _) := ⟨z0, z1, z2, z3, z4⟩
    clear z0 z1 z2 z3 z4
    go_wp2_with fail
    obtain ⟨z0, z1, z2, z3, z4⟩ := Z.out
    refine bodyPost_ret (v := leaf kk nn []) ?_ rfl ?_
    · simp only [set5] at z0 z1 z2 z3 z4
      simp [results, Tryd.results8, go_sem, z0, z1, z2, z3, z4, leaf, leafV, str]
    · exact ⟨leafV kk nn [], st3, none, none, 0, 0, rfl, FIN.out.2.1, HSTF.out, FIN.out.2.2.1, FIN.out.2.2.2⟩
  have n110 := hd_ne (m := 110) rfl q110
  by_cases q102 : hd0 (st1.getD []) = 102
  · have d := hd_eq (m := 102) rfl q102
    have E : Hid (st1.bind (oneS (valS f)) = (st1.bind (wordS [102, 97, 108, 115, 101])).map fun r => (leafV 1 0 [], r)) := by
      cases st1 with
      | none => rfl
      | some l =>
        have q : hd0 l = 102 := q102
        show oneS (valS f) l = _
        simp only [oneS, q]
        rfl
    go_wp2_with fail
    refine (word_st _ b s st1 ⟨#[102, 97, 108, 115, 101]⟩ 1 0 (by unfold I64; omega) (by unfold I64; omega) (by decide) (by decide) (by exact K2.out.1)).mono ?_
    rintro e w3 ⟨t, v, st3, rfl, ⟨kk, nn, rfl, rfl, hkk, hnn⟩, hst3, hr3, hg3⟩
    have HSTF : Hid (st.bind (valS (f + 1)) = st3.map (fun l => (leafV kk nn [], l))) := by show _ = _; rw [N.out, E.out]; exact hst3
    have HBX : BoxIs w3 w.heap.size (.int .i64 0) (.int .i64 0) (.string ⟨#[]⟩) (.slice none 0 0) (.slice none 0 0) := K2.out.2.2.1.grown hg3 (by simp; omega)
    have HVV : VIs w3 (fun k => w.heap.size + 1 ≤ k) (f + 1) (leafV kk nn []) (leaf kk nn []) := leaf_is _ _ f _ _ _ hkk hnn (by simp)
    have HGG := gb_trans K2.out.2.1 hg3
    have HRR := hr3
    have HST2 := HSTF.out
    clear hst3 hr3 hg3
    unfold leaf str
    have FIN := hidI (val_fin (f := f) (a7 := none) (a8 := none) (c7 := 0) (c8 := 0) hbl HVV HST2 HRR HGG HBX)
    obtain ⟨x0, x1, x2, x3, x4, y0, y1, y2, y3, y4⟩ := HBX.c
    obtain ⟨z0, z1, z2, z3, z4, -⟩ := (HBX.set (.int .i64 kk) (.int .i64 nn) (.string ⟨#[]⟩) (.slice none 0 0) (.slice none 0 0)).c
    clear HVV HST2 HRR HGG HBX
    have Z : Hid (_ ∧ _ ∧ _ ∧ _ ∧ _) := ⟨z0, z1, z2, z3, z4⟩
    clear z0 z1 z2 z3 z4
    go_wp2_with fail
    obtain ⟨z0, z1, z2, z3, z4⟩ := Z.out
    refine bodyPost_ret (v := leaf kk nn []) ?_ rfl ?_
    · simp only [set5] at z0 z1 z2 z3 z4
      simp [results, Tryd.results8, go_sem, z0, z1, z2, z3, z4, leaf, leafV, str]
    · exact ⟨leafV kk nn [], st3, none, none, 0, 0, rfl, FIN.out.2.1, HSTF.out, FIN.out.2.2.1, FIN.out.2.2.2⟩
  have n102 := hd_ne (m := 102) rfl q102
  by_cases q116 : hd0 (st1.getD []) = 116
  · have d := hd_eq (m := 116) rfl q116
    have E : Hid (st1.bind (oneS (valS f)) = (st1.bind (wordS [116, 114, 117, 101])).map fun r => (leafV 1 1 [], r)) := by
      cases st1 with
      | none => rfl
      | some l =>
        have q : hd0 l = 116 := q116
        show oneS (valS f) l = _
        simp only [oneS, q]
        rfl
    go_wp2_with fail
    refine (word_st _ b s st1 ⟨#[116, 114, 117, 101]⟩ 1 1 (by unfold I64; omega) (by unfold I64; omega) (by decide) (by decide) (by exact K2.out.1)).mono ?_
    rintro e w3 ⟨t, v, st3, rfl, ⟨kk, nn, rfl, rfl, hkk, hnn⟩, hst3, hr3, hg3⟩
    have HSTF : Hid (st.bind (valS (f + 1)) = st3.map (fun l => (leafV kk nn [], l))) := by show _ = _; rw [N.out, E.out]; exact hst3
    have HBX : BoxIs w3 w.heap.size (.int .i64 0) (.int .i64 0) (.string ⟨#[]⟩) (.slice none 0 0) (.slice none 0 0) := K2.out.2.2.1.grown hg3 (by simp; omega)
    have HVV : VIs w3 (fun k => w.heap.size + 1 ≤ k) (f + 1) (leafV kk nn []) (leaf kk nn []) := leaf_is _ _ f _ _ _ hkk hnn (by simp)
    have HGG := gb_trans K2.out.2.1 hg3
    have HRR := hr3
    have HST2 := HSTF.out
    clear hst3 hr3 hg3
    unfold leaf str
    have FIN := hidI (val_fin (f := f) (a7 := none) (a8 := none) (c7 := 0) (c8 := 0) hbl HVV HST2 HRR HGG HBX)
    obtain ⟨x0, x1, x2, x3, x4, y0, y1, y2, y3, y4⟩ := HBX.c
    obtain ⟨z0, z1, z2, z3, z4, -⟩ := (HBX.set (.int .i64 kk) (.int .i64 nn) (.string ⟨#[]⟩) (.slice none 0 0) (.slice none 0 0)).c
    clear HVV HST2 HRR HGG HBX
    have Z : Hid (_ ∧ _ ∧ _ ∧ _ ∧ _) := ⟨z0, z1, z2, z3, z4⟩
    clear z0 z1 z2 z3 z4
    go_wp2_with fail
    obtain ⟨z0, z1, z2, z3, z4⟩ := Z.out
    refine bodyPost_ret (v := leaf kk nn []) ?_ rfl ?_
    · simp only [set5] at z0 z1 z2 z3 z4
      simp [results, Tryd.results8, go_sem, z0, z1, z2, z3, z4, leaf, leafV, str]
    · exact ⟨leafV kk nn [], st3, none, none, 0, 0, rfl, FIN.out.2.1, HSTF.out, FIN.out.2.2.1, FIN.out.2.2.2⟩
  have n116 := hd_ne (m := 116) rfl q116
  by_cases q34 : hd0 (st1.getD []) = 34
  · have d := hd_eq (m := 34) rfl q34
    have E : Hid (st1.bind (oneS (valS f)) = (st1.bind quotS).map fun p => (leafV 3 0 p.1, p.2)) := by
      cases st1 with
      | none => rfl
      | some l =>
        show oneS (valS f) l = _
        simp only [oneS, if_neg (show ¬ hd0 l = 110 from q110), if_neg (show ¬ hd0 l = 102 from q102), if_neg (show ¬ hd0 l = 116 from q116), if_pos (show hd0 l = 34 from q34)]
        rfl
    go_wp2_with fail
    refine (quoted_st _ b s st1 (by exact K2.out.1)).mono ?_
    rintro e w3 ⟨t, st3, rfl, hst3, hkl, hr3, hg3⟩
    have HSTF : Hid (st.bind (valS (f + 1)) = st3.map (fun l => (leafV 3 0 t, l))) := by
      show _ = _
      rw [N.out, E.out, hst3]; cases st3 <;> rfl
    have HBX : BoxIs w3 w.heap.size (.int .i64 0) (.int .i64 0) (.string ⟨#[]⟩) (.slice none 0 0) (.slice none 0 0) := K2.out.2.2.1.grown hg3 (by simp; omega)
    have HVV : VIs w3 (fun k => w.heap.size + 1 ≤ k) (f + 1) (leafV 3 0 t) (leaf 3 0 t) := leaf_is _ _ f _ _ _ (by unfold I64; omega) (by unfold I64; omega) (by unfold maxLen; omega)
    have HGG := gb_trans K2.out.2.1 hg3
    have HRR := hr3
    have HST2 := HSTF.out
    clear hst3 hr3 hg3
    have FIN := hidI (val_fin (f := f) (a7 := none) (a8 := none) (c7 := 0) (c8 := 0) hbl HVV HST2 HRR HGG HBX)
    obtain ⟨x0, x1, x2, x3, x4, y0, y1, y2, y3, y4⟩ := HBX.c
    obtain ⟨z0, z1, z2, z3, z4, -⟩ := (HBX.set (.int .i64 3) (.int .i64 0) (.string ⟨t.toArray⟩) (.slice none 0 0) (.slice none 0 0)).c
    clear HVV HST2 HRR HGG HBX
    have Z : Hid (_ ∧ _ ∧ _ ∧ _ ∧ _) := ⟨z0, z1, z2, z3, z4⟩
    clear z0 z1 z2 z3 z4
    go_wp2_with fail
    obtain ⟨z0, z1, z2, z3, z4⟩ := Z.out
    refine bodyPost_ret (v := leaf 3 0 t) ?_ rfl ?_
    · simp only [set5] at z0 z1 z2 z3 z4
      simp [results, Tryd.results8, go_sem, z0, z1, z2, z3, z4, leaf, str]
    · exact ⟨leafV 3 0 t, st3, none, none, 0, 0, rfl, FIN.out.2.1, HSTF.out, FIN.out.2.2.1, FIN.out.2.2.2⟩
  have n34 := hd_ne (m := 34) rfl q34
  by_cases q91 : hd0 (st1.getD []) = 91
  · have d := hd_eq (m := 91) rfl q91
    have E : Hid (st1.bind (oneS (valS f)) = st1.bind (listS (valS f))) := by
      cases st1 with
      | none => rfl
      | some l =>
        show oneS (valS f) l = _
        simp only [oneS, if_neg (show ¬ hd0 l = 110 from q110), if_neg (show ¬ hd0 l = 102 from q102), if_neg (show ¬ hd0 l = 116 from q116), if_neg (show ¬ hd0 l = 34 from q34), if_pos (show hd0 l = 91 from q91)]
        rfl
    have hf0 : 0 < f := by
      have := hlen2.out
      cases hs : st1.getD [] with
      | nil => rw [hs] at q91; simp [hd0] at q91
      | cons c r => rw [hs] at this; simp only [List.length_cons] at this; omega
    go_wp2_with fail
    refine (list_st f IH.out _ b s st1 (by exact K2.out.1) (by exact K2.out.2.2.2) hb4 hf0 hlen2.out).mono ?_
    rintro e w3 ⟨t, st3, a7, a8, c7, c8, rfl, hv3, hst3, hr3, hg3⟩
    have HSTF : Hid (st.bind (valS (f + 1)) = st3.map (fun l => (t, l))) := by
      show _ = _
      rw [N.out, E.out, hst3]
    have HBX : BoxIs w3 w.heap.size (.int .i64 0) (.int .i64 0) (.string ⟨#[]⟩) (.slice none 0 0) (.slice none 0 0) := K2.out.2.2.1.grown hg3 (by simp; omega)
    have HVV : VIs w3 (fun k => w.heap.size + 1 ≤ k) (f + 1) t (.agg #[.int .i64 t.kind, .int .i64 t.n, .string ⟨t.s.toArray⟩, .slice a7 t.keys.length c7, .slice a8 t.l.length c8]) := hv3.weak (fun k hk => by omega)
    have HGG := gb_trans K2.out.2.1 hg3
    have HRR := hr3
    have HST2 := HSTF.out
    clear hst3 hr3 hg3 hv3
    have FIN := hidI (val_fin (f := f) hbl HVV HST2 HRR HGG HBX)
    obtain ⟨x0, x1, x2, x3, x4, y0, y1, y2, y3, y4⟩ := HBX.c
    obtain ⟨z0, z1, z2, z3, z4, -⟩ := FIN.out.1.c
    clear HVV HST2 HRR HGG HBX
    have Z : Hid (_ ∧ _ ∧ _ ∧ _ ∧ _) := ⟨z0, z1, z2, z3, z4⟩
    clear z0 z1 z2 z3 z4
    go_wp2_with fail
    obtain ⟨z0, z1, z2, z3, z4⟩ := Z.out
    refine bodyPost_ret (v := (.agg #[.int .i64 t.kind, .int .i64 t.n, .string ⟨t.s.toArray⟩, .slice a7 t.keys.length c7, .slice a8 t.l.length c8])) ?_ rfl ?_
    · simp only [set5] at z0 z1 z2 z3 z4
      simp [results, Tryd.results8, go_sem, z0, z1, z2, z3, z4]
    · exact ⟨t, st3, a7, a8, c7, c8, rfl, FIN.out.2.1, HSTF.out, FIN.out.2.2.1, FIN.out.2.2.2⟩
  have n91 := hd_ne (m := 91) rfl q91
  by_cases q123 : hd0 (st1.getD []) = 123
  · have d := hd_eq (m := 123) rfl q123
    have E : Hid (st1.bind (oneS (valS f)) = st1.bind (objS (valS f))) := by
      cases st1 with
      | none => rfl
      | some l =>
        show oneS (valS f) l = _
        simp only [oneS, if_neg (show ¬ hd0 l = 110 from q110), if_neg (show ¬ hd0 l = 102 from q102), if_neg (show ¬ hd0 l = 116 from q116), if_neg (show ¬ hd0 l = 34 from q34), if_neg (show ¬ hd0 l = 91 from q91), if_pos (show hd0 l = 123 from q123)]
        rfl
    have hf0 : 0 < f := by
      have := hlen2.out
      cases hs : st1.getD [] with
      | nil => rw [hs] at q123; simp [hd0] at q123
      | cons c r => rw [hs] at this; simp only [List.length_cons] at this; omega
    go_wp2_with fail
    refine (object_st HW.out f IH.out _ b s st1 (by exact K2.out.1) (by exact K2.out.2.2.2) hb4 hf0 hlen2.out).mono ?_
    rintro e w3 ⟨t, st3, a7, a8, c7, c8, rfl, hv3, hst3, hr3, hg3⟩
    have HSTF : Hid (st.bind (valS (f + 1)) = st3.map (fun l => (t, l))) := by
      show _ = _
      rw [N.out, E.out, hst3]
    have HBX : BoxIs w3 w.heap.size (.int .i64 0) (.int .i64 0) (.string ⟨#[]⟩) (.slice none 0 0) (.slice none 0 0) := K2.out.2.2.1.grown hg3 (by simp; omega)
    have HVV : VIs w3 (fun k => w.heap.size + 1 ≤ k) (f + 1) t (.agg #[.int .i64 t.kind, .int .i64 t.n, .string ⟨t.s.toArray⟩, .slice a7 t.keys.length c7, .slice a8 t.l.length c8]) := hv3.weak (fun k hk => by omega)
    have HGG := gb_trans K2.out.2.1 hg3
    have HRR := hr3
    have HST2 := HSTF.out
    clear hst3 hr3 hg3 hv3
    have FIN := hidI (val_fin (f := f) hbl HVV HST2 HRR HGG HBX)
    obtain ⟨x0, x1, x2, x3, x4, y0, y1, y2, y3, y4⟩ := HBX.c
    obtain ⟨z0, z1, z2, z3, z4, -⟩ := FIN.out.1.c
    clear HVV HST2 HRR HGG HBX
    have Z : Hid (_ ∧ _ ∧ _ ∧ _ ∧ _) := ⟨z0, z1, z2, z3, z4⟩
    clear z0 z1 z2 z3 z4
    go_wp2_with fail
    obtain ⟨z0, z1, z2, z3, z4⟩ := Z.out
    refine bodyPost_ret (v := (.agg #[.int .i64 t.kind, .int .i64 t.n, .string ⟨t.s.toArray⟩, .slice a7 t.keys.length c7, .slice a8 t.l.length c8])) ?_ rfl ?_
    · simp only [set5] at z0 z1 z2 z3 z4
      simp [results, Tryd.results8, go_sem, z0, z1, z2, z3, z4]
    · exact ⟨t, st3, a7, a8, c7, c8, rfl, FIN.out.2.1, HSTF.out, FIN.out.2.2.1, FIN.out.2.2.2⟩
  have n123 := hd_ne (m := 123) rfl q123
  have E : Hid (st1.bind (oneS (valS f)) = (st1.bind numS).map fun p => (leafV 2 p.1 [], p.2)) := by
    cases st1 with
    | none => rfl
    | some l =>
      show oneS (valS f) l = _
      simp only [oneS, if_neg (show ¬ hd0 l = 110 from q110), if_neg (show ¬ hd0 l = 102 from q102), if_neg (show ¬ hd0 l = 116 from q116), if_neg (show ¬ hd0 l = 34 from q34), if_neg (show ¬ hd0 l = 91 from q91), if_neg (show ¬ hd0 l = 123 from q123)]
      rfl
  go_wp2_with fail
  refine (number_st _ b s st1 (by exact K2.out.1) (by exact K2.out.2.2.2) hb4).mono ?_
  rintro e w3 ⟨t, v, st3, rfl, ⟨kk, nn, rfl, rfl, hkk, hnn⟩, hst3, hr3, hg3⟩
  have HSTF : Hid (st.bind (valS (f + 1)) = st3.map (fun l => (leafV kk nn [], l))) := by show _ = _; rw [N.out, E.out]; exact hst3
  have HBX : BoxIs w3 w.heap.size (.int .i64 0) (.int .i64 0) (.string ⟨#[]⟩) (.slice none 0 0) (.slice none 0 0) := K2.out.2.2.1.grown hg3 (by simp; omega)
  have HVV : VIs w3 (fun k => w.heap.size + 1 ≤ k) (f + 1) (leafV kk nn []) (leaf kk nn []) := leaf_is _ _ f _ _ _ hkk hnn (by simp)
  have HGG := gb_trans K2.out.2.1 hg3
  have HRR := hr3
  have HST2 := HSTF.out
  clear hst3 hr3 hg3
  unfold leaf str
  have FIN := hidI (val_fin (f := f) (a7 := none) (a8 := none) (c7 := 0) (c8 := 0) hbl HVV HST2 HRR HGG HBX)
  obtain ⟨x0, x1, x2, x3, x4, y0, y1, y2, y3, y4⟩ := HBX.c
  obtain ⟨z0, z1, z2, z3, z4, -⟩ := (HBX.set (.int .i64 kk) (.int .i64 nn) (.string ⟨#[]⟩) (.slice none 0 0) (.slice none 0 0)).c
  clear HVV HST2 HRR HGG HBX
  have Z : Hid (_ ∧ _ ∧ _ ∧ _ ∧ _) := ⟨z0, z1, z2, z3, z4⟩
  clear z0 z1 z2 z3 z4
  go_wp2_with fail
  obtain ⟨z0, z1, z2, z3, z4⟩ := Z.out
  refine bodyPost_ret (v := leaf kk nn []) ?_ rfl ?_
  · simp only [set5] at z0 z1 z2 z3 z4
    simp [results, Tryd.results8, go_sem, z0, z1, z2, z3, z4, leaf, str]
  · exact ⟨leafV kk nn [], st3, none, none, 0, 0, rfl, FIN.out.2.1, HSTF.out, FIN.out.2.2.1, FIN.out.2.2.2⟩

theorem value_all (hW : WithC) (f : Nat) : ValC f := by
  induction f with
  | zero => intro w b s st h hG hb4 hlen; omega
  | succ f ih => exact value_succ hW f ih
end Go.Proofs.YtkboplcffailoaaDoor

/- What Parse of package json does. -/
set_option linter.unusedSimpArgs false
set_option linter.unusedVariables false
namespace Go.Proofs.YtkboplcffailoaaDoor
open Go.RowKit

theorem value_st (f : Nat) : ValC f := value_all with_all f
def parseV (l : List UInt8) : Option V := (valS (l.length + 1) l).bind fun p => if p.2.dropWhile isSp = [] ∧ goodV p.1 = true then some p.1 else none
def parseS (l : List UInt8) : V × Int := if 2000 < l.length then (leafV 0 0 [], 2) else match parseV l with | some t => (t, 0) | none => (leafV 0 0 [], 1)

set_option maxRecDepth 100000 in
set_option maxHeartbeats 4000000 in
theorem parse_at (w : World) (l : List UInt8) (hl : l.length ≤ maxLen) (hG : Glob w) :
    Calls Tryd.prog 4 #[str l] w fun e w' => ∃ (t : V) (ee : Int) (a7 a8 : Option Addr) (c7 c8 : Nat), e = .returned (.tuple #[(.agg #[.int .i64 t.kind, .int .i64 t.n, .string ⟨t.s.toArray⟩, .slice a7 t.keys.length c7, .slice a8 t.l.length c8]), .int .i64 ee]) ∧ parseS l = (t, ee) ∧ VIs w' (fun k => w.heap.size ≤ k) 2003 t (.agg #[.int .i64 t.kind, .int .i64 t.n, .string ⟨t.s.toArray⟩, .slice a7 t.keys.length c7, .slice a8 t.l.length c8]) ∧ Below w.heap.size w w' := by
  unfold maxLen at hl
  unfold str
  have HG := hidI hG
  clear hG
  by_cases h2 : 2000 < l.length
  · have e0 : 2000 < (l.length : Int) := by omega
    have PS : Hid (parseS l = (leafV 0 0 [], 2)) := hidI (by simp [parseS, h2])
    go_enter Tryd.func4, Tryd.ntmps4
    go_wp2_with fail
    refine bodyPost_ret (v := .tuple #[leaf 0 0 [], .int .i64 2]) (by simp [results, Tryd.results4, go_sem, leaf, str]) rfl ?_
    exact ⟨leafV 0 0 [], 2, none, none, 0, 0, rfl, PS.out, leaf_is _ _ 2002 _ _ _ (by unfold I64; omega) (by unfold I64; omega) (by simp), bel_alloc _ _⟩
  · have e0 : ¬ (2000 < (l.length : Int)) := by omega
    have PS0 : Hid (parseS l = match parseV l with | some t => (t, 0) | none => (leafV 0 0 [], 1)) := hidI (by simp only [parseS, if_neg h2])
    go_enter Tryd.func4, Tryd.ntmps4
    go_wp2_with fail
    have hrd : Hid (RdSt ((w.alloc zcells).alloc (.cells #[.string ⟨l.toArray⟩, .int .i64 0, .bool false] 34)) (w.heap.size + 1) ⟨l.toArray⟩ (some l)) := ⟨0, ⟨h2b w _ _, Nat.zero_le _, by simp [ByteArray.size]; omega⟩, by simp⟩
    have hG2 : Hid (Glob ((w.alloc zcells).alloc (.cells #[.string ⟨l.toArray⟩, .int .i64 0, .bool false] 34))) := HG.out.grown (gb_alloc (gb_alloc (gb_refl w none) _) _) (by simp)
    have hsz : 4 ≤ w.heap.size + 1 := by have := HG.out.size; omega
    refine (value_st (l.length + 1) _ (w.heap.size + 1) ⟨l.toArray⟩ (some l) (by exact hrd.out) (by exact hG2.out) hsz (by simp)).mono ?_
    rintro e w3 ⟨t, st3, a7, a8, c7, c8, rfl, hv3, hst3, hr3, hg3⟩
    have K3 : Hid (VIs w3 (fun k => w.heap.size + 2 ≤ k) (l.length + 1) t (.agg #[.int .i64 t.kind, .int .i64 t.n, .string ⟨t.s.toArray⟩, .slice a7 t.keys.length c7, .slice a8 t.l.length c8]) ∧ (some l).bind (valS (l.length + 1)) = st3.map (fun l => (t, l)) ∧ RdSt w3 (w.heap.size + 1) ⟨l.toArray⟩ st3 ∧ BoxIs w3 w.heap.size (.int .i64 0) (.int .i64 0) (.string ⟨#[]⟩) (.slice none 0 0) (.slice none 0 0) ∧ w.grownBy w3 none) :=
      ⟨by simpa using hv3, hst3, hr3, BoxIs.grown (h2a w _ _) hg3 (by simp), gb_out (gb_alloc (gb_alloc (gb_refl w none) _) _) hg3 (by omega)⟩
    have hsz3 : w.heap.size + 1 < w3.heap.size := hr3.lt
    clear hv3 hst3 hr3 hg3
    go_wp2_with fail
    refine (spaces_st _ (w.heap.size + 1) ⟨l.toArray⟩ st3 (by exact K3.out.2.2.1.grown (World.grownBy_alloc w3 _ none) (by simp))).mono ?_
    rintro e w4 ⟨rfl, hr4, hg4⟩
    have K4 : Hid (RdSt w4 (w.heap.size + 1) ⟨l.toArray⟩ (st3.map (List.dropWhile isSp)) ∧ BoxIs w4 w.heap.size (.int .i64 0) (.int .i64 0) (.string ⟨#[]⟩) (.slice none 0 0) (.slice none 0 0) ∧ BoxIs w4 w3.heap.size (.int .i64 t.kind) (.int .i64 t.n) (.string ⟨t.s.toArray⟩) (.slice a7 t.keys.length c7) (.slice a8 t.l.length c8) ∧ VIs w4 (fun k => w.heap.size + 2 ≤ k) (l.length + 1) t (.agg #[.int .i64 t.kind, .int .i64 t.n, .string ⟨t.s.toArray⟩, .slice a7 t.keys.length c7, .slice a8 t.l.length c8]) ∧ w.grownBy w4 none) :=
      ⟨hr4, (K3.out.2.2.2.1.grown (World.grownBy_alloc w3 _ none) (by simp)).grown hg4 (by simp), BoxIs.grown (heap_alloc_new w3 _) hg4 (by simp; omega), (K3.out.1.grown (World.grownBy_alloc w3 _ none) (by simp)).grown hg4 (fun k hk e => by simp at e; omega), gb_out (gb_alloc K3.out.2.2.2.2 _) hg4 (by omega)⟩
    clear hr4 hg4
    have hval : valS (l.length + 1) l = st3.map (fun l => (t, l)) := K3.out.2.1
    match st3, K3, K4, hval with
    | none, K3, K4, hval =>
      have PS : Hid (parseS l = (leafV 0 0 [], 1)) := hidI (by
        have : parseV l = none := by unfold parseV; rw [hval]; rfl
        rw [PS0.out, this])
      obtain ⟨-, -, c2, -, -⟩ := (RdAt.nil K4.out.1).c
      have EN : Hid (BoxIs w4 w.heap.size (.int .i64 0) (.int .i64 0) (.string ⟨#[]⟩) (.slice none 0 0) (.slice none 0 0) ∧ w.grownBy w4 none) := ⟨K4.out.2.1, K4.out.2.2.2.2⟩
      clear hval
      obtain ⟨x0, x1, x2, x3, x4, y0, y1, y2, y3, y4⟩ := EN.out.1.c
      obtain ⟨z0, z1, z2, z3, z4, -⟩ := (EN.out.1.set (.int .i64 0) (.int .i64 0) (.string ⟨#[]⟩) (.slice none 0 0) (.slice none 0 0)).c
      have Z : Hid (_ ∧ _ ∧ _ ∧ _ ∧ _) := ⟨z0, z1, z2, z3, z4⟩
      clear z0 z1 z2 z3 z4
      go_wp2_with fail
      obtain ⟨z0, z1, z2, z3, z4⟩ := Z.out
      refine bodyPost_ret (v := .tuple #[leaf 0 0 [], .int .i64 1]) ?_ rfl ?_
      · simp only [set5] at z0 z1 z2 z3 z4
        simp [results, Tryd.results4, go_sem, z0, z1, z2, z3, z4, leaf, str]
      · exact ⟨leafV 0 0 [], 1, none, none, 0, 0, rfl, PS.out, leaf_is _ _ 2002 _ _ _ (by unfold I64; omega) (by unfold I64; omega) (by simp), gb_none (gb_set5 EN.out.2 (Nat.le_refl _) _ _ _ _ _)⟩
    | some r, K3, K4, hval =>
      obtain ⟨i, hi, ei⟩ := K4.out.1
      obtain ⟨c0, c1, c2, -, -⟩ := hi.c
      have hile := hi.2.1
      have hel : (ByteArray.mk l.toArray).size = l.length := by simp [ByteArray.size]
      rw [hel] at hile
      have EI := hidI ei
      clear hi ei
      cases hd : r.dropWhile isSp with
      | cons x r2 =>
        have hlt : (i : Int) < (l.length : Int) := by
          have h9 := EI.out
          rw [show (some r).map (List.dropWhile isSp) = some (r.dropWhile isSp) from rfl, hd] at h9
          have := congrArg List.length h9
          simp at this
          omega
        have PS : Hid (parseS l = (leafV 0 0 [], 1)) := hidI (by
          have : parseV l = none := by unfold parseV; rw [hval]; simp [hd]
          rw [PS0.out, this])
        have EN : Hid (BoxIs w4 w.heap.size (.int .i64 0) (.int .i64 0) (.string ⟨#[]⟩) (.slice none 0 0) (.slice none 0 0) ∧ w.grownBy w4 none) := ⟨K4.out.2.1, K4.out.2.2.2.2⟩
        clear hval hd
        obtain ⟨x0, x1, x2, x3, x4, y0, y1, y2, y3, y4⟩ := EN.out.1.c
        obtain ⟨z0, z1, z2, z3, z4, -⟩ := (EN.out.1.set (.int .i64 0) (.int .i64 0) (.string ⟨#[]⟩) (.slice none 0 0) (.slice none 0 0)).c
        have Z : Hid (_ ∧ _ ∧ _ ∧ _ ∧ _) := ⟨z0, z1, z2, z3, z4⟩
        clear z0 z1 z2 z3 z4
        go_wp2_with fail
        obtain ⟨z0, z1, z2, z3, z4⟩ := Z.out
        refine bodyPost_ret (v := .tuple #[leaf 0 0 [], .int .i64 1]) ?_ rfl ?_
        · simp only [set5] at z0 z1 z2 z3 z4
          simp [results, Tryd.results4, go_sem, z0, z1, z2, z3, z4, leaf, str]
        · exact ⟨leafV 0 0 [], 1, none, none, 0, 0, rfl, PS.out, leaf_is _ _ 2002 _ _ _ (by unfold I64; omega) (by unfold I64; omega) (by simp), gb_none (gb_set5 EN.out.2 (Nat.le_refl _) _ _ _ _ _)⟩
      | nil =>
        have hge : ¬ ((i : Int) < (l.length : Int)) := by
          have h9 := EI.out
          rw [show (some r).map (List.dropWhile isSp) = some (r.dropWhile isSp) from rfl, hd] at h9
          have := congrArg List.length h9
          simp at this
          omega
        obtain ⟨p0, p1, p2, p3, p4, -⟩ := K4.out.2.2.1.c
        cases hgd : goodV t with
        | true =>
          have PS : Hid (parseS l = (t, 0)) := hidI (by
            have : parseV l = some t := by unfold parseV; rw [hval]; simp [hd, hgd]
            rw [PS0.out, this])
          have HGD := hidI hgd
          clear hval hd hgd
          go_wp2_with fail
          refine (Good_at _ _ _ t _ (by exact K4.out.2.2.2.1)).mono ?_
          rintro e w5 ⟨rfl, hb5⟩
          rw [HGD.out]
          have K5 : Hid (BoxIs w5 w.heap.size (.int .i64 0) (.int .i64 0) (.string ⟨#[]⟩) (.slice none 0 0) (.slice none 0 0) ∧ BoxIs w5 w3.heap.size (.int .i64 t.kind) (.int .i64 t.n) (.string ⟨t.s.toArray⟩) (.slice a7 t.keys.length c7) (.slice a8 t.l.length c8) ∧ VIs w5 (fun k => w.heap.size + 2 ≤ k) (l.length + 1) t (.agg #[.int .i64 t.kind, .int .i64 t.n, .string ⟨t.s.toArray⟩, .slice a7 t.keys.length c7, .slice a8 t.l.length c8]) ∧ w.grownBy w5 none) := ⟨box_bel hb5 K4.out.2.1, box_bel hb5 K4.out.2.2.1, K4.out.2.2.2.1.bel hb5, gb_trans K4.out.2.2.2.2 (gb_below hb5)⟩
          clear hb5 p0 p1 p2 p3 p4 c0 c1 c2
          obtain ⟨p0, p1, p2, p3, p4, -⟩ := K5.out.2.1.c
          obtain ⟨x0, x1, x2, x3, x4, y0, y1, y2, y3, y4⟩ := K5.out.1.c
          obtain ⟨z0, z1, z2, z3, z4, -⟩ := (K5.out.1.set (.int .i64 t.kind) (.int .i64 t.n) (.string ⟨t.s.toArray⟩) (.slice a7 t.keys.length c7) (.slice a8 t.l.length c8)).c
          have Z : Hid (_ ∧ _ ∧ _ ∧ _ ∧ _) := ⟨z0, z1, z2, z3, z4⟩
          clear z0 z1 z2 z3 z4
          go_wp2_with fail
          obtain ⟨z0, z1, z2, z3, z4⟩ := Z.out
          refine bodyPost_ret (v := .tuple #[(.agg #[.int .i64 t.kind, .int .i64 t.n, .string ⟨t.s.toArray⟩, .slice a7 t.keys.length c7, .slice a8 t.l.length c8]), .int .i64 0]) ?_ rfl ?_
          · simp only [set5] at z0 z1 z2 z3 z4
            simp [results, Tryd.results4, go_sem, z0, z1, z2, z3, z4]
          · refine ⟨t, 0, a7, a8, c7, c8, rfl, PS.out, ?_, gb_none (gb_set5 K5.out.2.2.2 (Nat.le_refl _) _ _ _ _ _)⟩
            exact ((K5.out.2.2.1.grown (set5_gb w5 w.heap.size (.int .i64 t.kind) (.int .i64 t.n) (.string ⟨t.s.toArray⟩) (.slice a7 t.keys.length c7) (.slice a8 t.l.length c8)) (fun k hk e => by simp at e; omega)).weak (fun k hk => by omega)).le (by omega)
        | false =>
          have PS : Hid (parseS l = (leafV 0 0 [], 1)) := hidI (by
            have : parseV l = none := by unfold parseV; rw [hval]; simp [hgd]
            rw [PS0.out, this])
          have HGD := hidI hgd
          clear hval hd hgd
          go_wp2_with fail
          refine (Good_at _ _ _ t _ (by exact K4.out.2.2.2.1)).mono ?_
          rintro e w5 ⟨rfl, hb5⟩
          rw [HGD.out]
          have EN : Hid (BoxIs w5 w.heap.size (.int .i64 0) (.int .i64 0) (.string ⟨#[]⟩) (.slice none 0 0) (.slice none 0 0) ∧ w.grownBy w5 none) := ⟨box_bel hb5 K4.out.2.1, gb_trans K4.out.2.2.2.2 (gb_below hb5)⟩
          clear hb5 p0 p1 p2 p3 p4 c0 c1 c2
          obtain ⟨x0, x1, x2, x3, x4, y0, y1, y2, y3, y4⟩ := EN.out.1.c
          obtain ⟨z0, z1, z2, z3, z4, -⟩ := (EN.out.1.set (.int .i64 0) (.int .i64 0) (.string ⟨#[]⟩) (.slice none 0 0) (.slice none 0 0)).c
          have Z : Hid (_ ∧ _ ∧ _ ∧ _ ∧ _) := ⟨z0, z1, z2, z3, z4⟩
          clear z0 z1 z2 z3 z4
          go_wp2_with fail
          obtain ⟨z0, z1, z2, z3, z4⟩ := Z.out
          refine bodyPost_ret (v := .tuple #[leaf 0 0 [], .int .i64 1]) ?_ rfl ?_
          · simp only [set5] at z0 z1 z2 z3 z4
            simp [results, Tryd.results4, go_sem, z0, z1, z2, z3, z4, leaf, str]
          · exact ⟨leafV 0 0 [], 1, none, none, 0, 0, rfl, PS.out, leaf_is _ _ 2002 _ _ _ (by unfold I64; omega) (by unfold I64; omega) (by simp), gb_none (gb_set5 EN.out.2 (Nat.le_refl _) _ _ _ _ _)⟩
end Go.Proofs.YtkboplcffailoaaDoor

/- Spaces ahead of a text and behind it change nothing of what is read of it. -/
set_option linter.unusedSimpArgs false
set_option linter.unusedVariables false
namespace Go.Proofs.YtkboplcffailoaaDoor
open Go.RowKit

/- Spaces. -/
def Gap (g : List UInt8) : Prop := ∀ c ∈ g, isSp c = true
theorem drop_idem (l : List UInt8) : (l.dropWhile isSp).dropWhile isSp = l.dropWhile isSp := by
  induction l with
  | nil => rfl
  | cons c l ih =>
    by_cases h : isSp c = true
    · rw [List.dropWhile_cons, if_pos h, ih]
    · rw [List.dropWhile_cons, if_neg h, List.dropWhile_cons, if_neg h]
theorem drop_gap {g : List UInt8} (hg : Gap g) (l : List UInt8) : (g ++ l).dropWhile isSp = l.dropWhile isSp := by
  induction g with
  | nil => rfl
  | cons c g ih =>
    rw [List.cons_append, List.dropWhile_cons, if_pos (hg c (by simp))]
    exact ih fun x hx => hg x (by simp [hx])
theorem drop_gap_nil {g : List UInt8} (hg : Gap g) : g.dropWhile isSp = [] := by
  have := drop_gap hg []
  simpa using this
theorem drop_behind {g : List UInt8} (hg : Gap g) (l : List UInt8) : (l ++ g).dropWhile isSp = if l.dropWhile isSp = [] then [] else l.dropWhile isSp ++ g := by
  induction l with
  | nil => simpa using drop_gap_nil hg
  | cons c l ih =>
    by_cases h : isSp c = true
    · rw [List.cons_append, List.dropWhile_cons, if_pos h, ih, List.dropWhile_cons, if_pos h]
    · rw [List.cons_append, List.dropWhile_cons, if_neg h, List.dropWhile_cons, if_neg h]
      simp

theorem markS_drop (c : UInt8) (l : List UInt8) : markS c (l.dropWhile isSp) = markS c l := by
  unfold markS; rw [drop_idem]
theorem markS_behind {g : List UInt8} (hg : Gap g) (c : UInt8) (l : List UInt8) : markS c (l ++ g) = (markS c l).map (· ++ g) := by
  unfold markS
  rw [drop_behind hg]
  cases h : l.dropWhile isSp with
  | nil => simp
  | cons x r =>
    simp only [List.cons_append, reduceCtorEq, if_false]
    split <;> rfl

theorem gap_no {c : UInt8} (h : isSp c = true) : c = 32 ∨ c = 9 ∨ c = 10 ∨ c = 13 := by
  simp only [isSp, Bool.or_eq_true, beq_iff_eq] at h
  rcases h with ((h | h) | h) | h <;> simp [h]
theorem hexv_gap {c : UInt8} (h : isSp c = true) : hexv c = none := by
  rcases gap_no h with rfl | rfl | rfl | rfl <;> rfl
theorem isNum_gap {c : UInt8} (h : isSp c = true) : isNum c = false := by
  rcases gap_no h with rfl | rfl | rfl | rfl <;> rfl
theorem digS_behind {g : List UInt8} (hg : Gap g) (l : List UInt8) : digS (l ++ g) = (digS l).map fun p => (p.1, p.2 ++ g) := by
  cases l with
  | nil =>
    cases g with
    | nil => rfl
    | cons c g => simp [digS, hexv_gap (hg c (by simp))]
  | cons c l => simp [digS, Function.comp_def]
theorem digsS_behind {g : List UInt8} (hg : Gap g) (k : Nat) : ∀ (n : Nat) (l : List UInt8), digsS k n (l ++ g) = (digsS k n l).map fun p => (p.1, p.2 ++ g) := by
  induction k with
  | zero => intro n l; rfl
  | succ k ih =>
    intro n l
    simp only [digsS, digS_behind hg]
    cases digS l with
    | none => rfl
    | some p => exact ih _ _
theorem codedS_behind {g : List UInt8} (hg : Gap g) (l : List UInt8) : codedS (l ++ g) = (codedS l).map fun p => (p.1, p.2 ++ g) := by
  simp only [codedS, digsS_behind hg]
  cases digsS 4 0 l with
  | none => rfl
  | some p => simp only [Option.map_some, Option.bind_some]; split <;> rfl
theorem escS_behind {g : List UInt8} (hg : Gap g) (l : List UInt8) : escS (l ++ g) = (escS l).map fun p => (p.1, p.2 ++ g) := by
  cases l with
  | nil =>
    cases g with
    | nil => rfl
    | cons c g => rcases gap_no (hg c (by simp)) with rfl | rfl | rfl | rfl <;> rfl
  | cons c l =>
    simp only [List.cons_append, escS]
    split
    · exact codedS_behind hg l
    · split
      · rfl
      · cases escB c <;> rfl
theorem bodyS_gap (n : Nat) : ∀ (acc g : List UInt8), Gap g → bodyS n acc g = none := by
  induction n with
  | zero => intro acc g h; rfl
  | succ n ih =>
    intro acc g h
    cases g with
    | nil => rfl
    | cons c g =>
      rcases gap_no (h c (by simp)) with rfl | rfl | rfl | rfl <;> simp [bodyS]
      exact ih _ _ fun x hx => h x (by simp [hx])
theorem bodyS_behind {g : List UInt8} (hg : Gap g) (n : Nat) : ∀ (acc l : List UInt8), bodyS n acc (l ++ g) = (bodyS n acc l).map fun p => (p.1, p.2 ++ g) := by
  induction n with
  | zero => intro acc l; rfl
  | succ n ih =>
    intro acc l
    cases l with
    | nil => rw [List.nil_append, bodyS_gap _ _ _ hg]; rfl
    | cons c l =>
      simp only [List.cons_append, bodyS]
      split
      · rfl
      · split
        · rw [escS_behind hg]
          cases escS l with
          | none => rfl
          | some p => exact ih _ _
        · split
          · rfl
          · exact ih _ _
theorem quotS_behind {g : List UInt8} (hg : Gap g) (l : List UInt8) : quotS (l ++ g) = (quotS l).map fun p => (p.1, p.2 ++ g) := by
  simp only [quotS, markS_behind hg]
  cases markS 34 l with
  | none => rfl
  | some r =>
    simp only [Option.map_some, Option.bind_some]
    rw [bodyS_behind hg, bodyS_fuel _ (r.length + 1) _ _ (by simp; omega) (by omega)]
theorem quotS_drop (l : List UInt8) : quotS (l.dropWhile isSp) = quotS l := by
  simp only [quotS, markS_drop]
theorem pre_behind {g : List UInt8} (hg : Gap g) : ∀ (wd l : List UInt8), (∀ c ∈ wd, isSp c = false) → wd.isPrefixOf (l ++ g) = wd.isPrefixOf l
  | [], l, _ => by simp [List.isPrefixOf]
  | c :: wd, [], h => by
    cases g with
    | nil => rfl
    | cons x g =>
      have h1 := h c (by simp)
      have h2 := hg x (by simp)
      have : c ≠ x := by rintro rfl; rw [h1] at h2; cases h2
      simp [List.isPrefixOf, this]
  | c :: wd, x :: l, h => by
    rw [List.cons_append, List.isPrefixOf, List.isPrefixOf, pre_behind hg wd l fun y hy => h y (by simp [hy])]
theorem wordS_behind {g : List UInt8} (hg : Gap g) (wd l : List UInt8) (h : ∀ c ∈ wd, isSp c = false) : wordS wd (l ++ g) = (wordS wd l).map (· ++ g) := by
  unfold wordS
  rw [pre_behind hg wd l h]
  split
  · rename_i hp
    have := List.IsPrefix.length_le (List.isPrefixOf_iff_prefix.1 hp)
    simp [List.drop_append_of_le_length this]
  · rfl
theorem takeNum_behind {g : List UInt8} (hg : Gap g) (l : List UInt8) : (l ++ g).takeWhile isNum = l.takeWhile isNum := by
  induction l with
  | nil =>
    cases g with
    | nil => rfl
    | cons c g => simp [isNum_gap (hg c (by simp))]
  | cons c l ih =>
    rw [List.cons_append, List.takeWhile_cons, List.takeWhile_cons, ih]
theorem dropNum_behind {g : List UInt8} (hg : Gap g) (l : List UInt8) : (l ++ g).dropWhile isNum = l.dropWhile isNum ++ g := by
  induction l with
  | nil =>
    cases g with
    | nil => rfl
    | cons c g => simp [isNum_gap (hg c (by simp))]
  | cons c l ih =>
    rw [List.cons_append, List.dropWhile_cons, List.dropWhile_cons, ih]
    split <;> rfl
theorem numS_behind {g : List UInt8} (hg : Gap g) (l : List UInt8) : numS (l ++ g) = (numS l).map fun p => (p.1, p.2 ++ g) := by
  unfold numS
  rw [takeNum_behind hg, dropNum_behind hg]
  split
  · split <;> rfl
  · rfl

abbrev Rd := List UInt8 → Option (V × List UInt8)
def Hom (g : List UInt8) (f : Rd) : Prop := ∀ l, f (l ++ g) = (f l).map fun p => (p.1, p.2 ++ g)
def Dr (f : Rd) : Prop := ∀ l, f (l.dropWhile isSp) = f l
theorem Hom.drop {g : List UInt8} {f : Rd} (h : Hom g f) (hd : Dr f) (l : List UInt8) : f ((l ++ g).dropWhile isSp) = (f (l.dropWhile isSp)).map fun p => (p.1, p.2 ++ g) := by
  rw [hd, hd, h]

theorem itemsS_fuelU {f : Rd} (hf : Less f) (n : Nat) : ∀ (m : Nat) (acc : List V) (l : List UInt8), l.length < n → l.length < m → itemsS f n acc l = itemsS f m acc l := by
  induction n with
  | zero => intro m acc l h; omega
  | succ n ih =>
    intro m acc l h1 h2
    cases m with
    | zero => omega
    | succ m =>
      simp only [itemsS]
      cases hm : markS 44 l with
      | none => rfl
      | some r =>
        have := markS_len hm
        cases he : f r with
        | none => simp only [he, Option.bind_none]
        | some p =>
          have := hf _ _ he
          simp only [he, Option.bind_some]
          exact ih m _ _ (by omega) (by omega)
theorem membsS_fuelU {f : Rd} (hf : Less f) (n : Nat) : ∀ (m : Nat) (v : V) (l : List UInt8), l.length < n → l.length < m → membsS f n v l = membsS f m v l := by
  induction n with
  | zero => intro m acc l h; omega
  | succ n ih =>
    intro m acc l h1 h2
    cases m with
    | zero => omega
    | succ m =>
      simp only [membsS]
      cases hm : markS 44 l with
      | none => rfl
      | some r =>
        have := markS_len hm
        cases he : memS f acc r with
        | none => simp only [he, Option.bind_none]
        | some p =>
          have := memS_len hf _ _ _ he
          simp only [he, Option.bind_some]
          exact ih m _ _ (by omega) (by omega)
theorem itemsS_behind {g : List UInt8} (hg : Gap g) {f : Rd} (h : Hom g f) (n : Nat) : ∀ (acc : List V) (l : List UInt8), itemsS f n acc (l ++ g) = (itemsS f n acc l).map fun p => (p.1, p.2 ++ g) := by
  induction n with
  | zero => intro acc l; rfl
  | succ n ih =>
    intro acc l
    simp only [itemsS, markS_drop, markS_behind hg]
    cases markS 44 l with
    | none => simp only [Option.map_none]; cases markS 93 l <;> rfl
    | some r =>
      simp only [Option.map_some, h r]
      cases f r with
      | none => rfl
      | some p => exact ih _ _
theorem memS_behind {g : List UInt8} (hg : Gap g) {f : Rd} (h : Hom g f) (v : V) : Hom g (memS f v) := by
  intro l
  simp only [memS, quotS_behind hg]
  cases quotS l with
  | none => rfl
  | some q =>
    simp only [Option.map_some, Option.bind_some, markS_behind hg]
    cases markS 58 q.2 with
    | none => rfl
    | some r =>
      simp only [Option.map_some, Option.bind_some, h r]
      cases f r with
      | none => rfl
      | some p => simp only [Option.map_some, Option.bind_some]; split <;> rfl
theorem memS_drop (f : Rd) (v : V) : Dr (memS f v) := by
  intro l
  simp only [memS, quotS_drop]
theorem membsS_behind {g : List UInt8} (hg : Gap g) {f : Rd} (h : Hom g f) (n : Nat) : ∀ (v : V) (l : List UInt8), membsS f n v (l ++ g) = (membsS f n v l).map fun p => (p.1, p.2 ++ g) := by
  induction n with
  | zero => intro acc l; rfl
  | succ n ih =>
    intro acc l
    simp only [membsS, markS_drop, markS_behind hg]
    cases markS 44 l with
    | none => simp only [Option.map_none]; cases markS 125 l <;> rfl
    | some r =>
      simp only [Option.map_some, memS_behind hg h acc r]
      cases memS f acc r with
      | none => rfl
      | some p => exact ih _ _
theorem listS_behind {g : List UInt8} (hg : Gap g) {f : Rd} (h : Hom g f) (hd : Dr f) (hl : Less f) : Hom g (listS f) := by
  intro l
  simp only [listS, markS_behind hg]
  cases markS 91 l with
  | none => rfl
  | some r =>
    simp only [Option.map_some, Option.bind_some, markS_behind hg]
    cases markS 93 r with
    | some r2 => rfl
    | none =>
      simp only [Option.map_none, h.drop hd]
      cases f (r.dropWhile isSp) with
      | none => rfl
      | some p =>
        simp only [Option.map_some, Option.bind_some]
        rw [itemsS_behind hg h, itemsS_fuelU hl _ (p.2.length + 1) _ _ (by simp; omega) (by omega)]
theorem objS_behind {g : List UInt8} (hg : Gap g) {f : Rd} (h : Hom g f) (hl : Less f) : Hom g (objS f) := by
  intro l
  simp only [objS, markS_behind hg]
  cases markS 123 l with
  | none => rfl
  | some r =>
    simp only [Option.map_some, Option.bind_some, markS_behind hg]
    cases markS 125 r with
    | some r2 => rfl
    | none =>
      simp only [Option.map_none, (memS_behind hg h _).drop (memS_drop f _)]
      cases memS f ⟨5, 0, [], [], []⟩ (r.dropWhile isSp) with
      | none => rfl
      | some p =>
        simp only [Option.map_some, Option.bind_some]
        rw [membsS_behind hg h, membsS_fuelU hl _ (p.2.length + 1) _ _ (by simp; omega) (by omega)]
theorem oneS_nil (f : Rd) : oneS f [] = none := by
  have : numS [] = none := by
    unfold numS
    split
    · rename_i v hv; exact absurd hv (atoi_nil v)
    · rfl
  unfold oneS
  simp [hd0, this]
theorem oneS_behind {g : List UInt8} (hg : Gap g) {f : Rd} (h : Hom g f) (hd : Dr f) (hl : Less f) (l : List UInt8) (hne : l ≠ []) : oneS f (l ++ g) = (oneS f l).map fun p => (p.1, p.2 ++ g) := by
  have e : hd0 (l ++ g) = hd0 l := by
    cases l with
    | nil => exact absurd rfl hne
    | cons c l => rfl
  unfold oneS
  rw [e]
  split
  · rw [wordS_behind hg _ _ (by decide)]; cases wordS [110, 117, 108, 108] l <;> rfl
  split
  · rw [wordS_behind hg _ _ (by decide)]; cases wordS [102, 97, 108, 115, 101] l <;> rfl
  split
  · rw [wordS_behind hg _ _ (by decide)]; cases wordS [116, 114, 117, 101] l <;> rfl
  split
  · rw [quotS_behind hg]; cases quotS l <;> rfl
  split
  · exact listS_behind hg h hd hl l
  split
  · exact objS_behind hg h hl l
  · rw [numS_behind hg]; cases numS l <;> rfl
theorem valS_drop (k : Nat) : Dr (valS k) := by
  intro l
  cases k with
  | zero => rfl
  | succ k => simp only [valS, drop_idem]
theorem valS_behind {g : List UInt8} (hg : Gap g) (k : Nat) : Hom g (valS k) := by
  induction k with
  | zero => intro l; rfl
  | succ k ih =>
    intro l
    simp only [valS]
    rw [drop_behind hg]
    split
    · rename_i e; rw [e, oneS_nil]; rfl
    · rename_i e
      exact oneS_behind hg ih (valS_drop k) (valS_len k) _ e

/- Two readers that tell the same of short texts. -/
def Agr (n : Nat) (f f' : Rd) : Prop := ∀ l, l.length < n → f l = f' l
theorem itemsS_agr {f f' : Rd} {N : Nat} (h : Agr N f f') (hf : Less f) (n : Nat) : ∀ (acc : List V) (l : List UInt8), l.length < N → itemsS f n acc l = itemsS f' n acc l := by
  induction n with
  | zero => intro acc l _; rfl
  | succ n ih =>
    intro acc l hl
    simp only [itemsS]
    cases hm : markS 44 l with
    | none => rfl
    | some r =>
      have := markS_len hm
      simp only [← h r (by omega)]
      cases he : f r with
      | none => rfl
      | some p =>
        have := hf _ _ he
        exact ih _ _ (by omega)
theorem memS_agr {f f' : Rd} {N : Nat} (h : Agr N f f') (v : V) (l : List UInt8) (hl : l.length < N) : memS f v l = memS f' v l := by
  simp only [memS]
  cases hq : quotS l with
  | none => rfl
  | some q =>
    have := quotS_len hq
    simp only [Option.bind_some]
    cases hm : markS 58 q.2 with
    | none => rfl
    | some r =>
      have := markS_len hm
      simp only [Option.bind_some, ← h r (by omega)]
theorem membsS_agr {f f' : Rd} {N : Nat} (h : Agr N f f') (hf : Less f) (n : Nat) : ∀ (v : V) (l : List UInt8), l.length < N → membsS f n v l = membsS f' n v l := by
  induction n with
  | zero => intro acc l _; rfl
  | succ n ih =>
    intro acc l hl
    simp only [membsS]
    cases hm : markS 44 l with
    | none => rfl
    | some r =>
      have := markS_len hm
      simp only [← memS_agr h acc r (by omega)]
      cases he : memS f acc r with
      | none => rfl
      | some p =>
        have := memS_len hf _ _ _ he
        exact ih _ _ (by omega)
theorem oneS_agr {f f' : Rd} {N : Nat} (h : Agr N f f') (hf : Less f) (l : List UInt8) (hl : l.length ≤ N) : oneS f l = oneS f' l := by
  have eL : listS f l = listS f' l := by
    simp only [listS]
    cases hm : markS 91 l with
    | none => rfl
    | some r =>
      have := markS_len hm
      have := dropSp_len r
      simp only [Option.bind_some, ← h (r.dropWhile isSp) (by omega)]
      split
      · rfl
      · cases he : f (r.dropWhile isSp) with
        | none => rfl
        | some p =>
          have := hf _ _ he
          exact itemsS_agr h hf _ _ _ (by omega)
  have eO : objS f l = objS f' l := by
    simp only [objS]
    cases hm : markS 123 l with
    | none => rfl
    | some r =>
      have := markS_len hm
      have := dropSp_len r
      simp only [Option.bind_some, ← memS_agr h _ (r.dropWhile isSp) (by omega)]
      split
      · rfl
      · cases he : memS f ⟨5, 0, [], [], []⟩ (r.dropWhile isSp) with
        | none => rfl
        | some p =>
          have := memS_len hf _ _ _ he
          exact membsS_agr h hf _ _ _ (by omega)
  unfold oneS
  rw [eL, eO]
theorem valS_fuel (n : Nat) : ∀ (m : Nat) (l : List UInt8), l.length < n → l.length < m → valS n l = valS m l := by
  induction n with
  | zero => intro m l h; omega
  | succ n ih =>
    intro m l h1 h2
    cases m with
    | zero => omega
    | succ m =>
      simp only [valS]
      have hd := dropSp_len l
      exact oneS_agr (N := l.length) (fun x hx => ih m x (by omega) (by omega)) (valS_len n) _ hd

theorem parseV_gap {g : List UInt8} (hg : Gap g) (l : List UInt8) : parseV (g ++ l ++ g) = parseV l := by
  unfold parseV
  have e : valS ((g ++ l ++ g).length + 1) (g ++ l ++ g) = (valS (l.length + 1) l).map fun p => (p.1, p.2 ++ g) := by
    rw [← valS_drop, List.append_assoc, drop_gap hg, valS_drop, valS_behind hg, valS_fuel _ (l.length + 1) _ (by simp; omega) (by omega)]
  rw [e]
  cases valS (l.length + 1) l with
  | none => rfl
  | some p =>
    simp only [Option.map_some, Option.bind_some]
    have : ((p.2 ++ g).dropWhile isSp = []) = (p.2.dropWhile isSp = []) := by
      rw [drop_behind hg]
      split
      · rename_i h; simp [h]
      · rename_i h; simp [h]
    simp only [this]
theorem parseS_gap {g : List UInt8} (hg : Gap g) (l : List UInt8) (h : l.length + 2 * g.length ≤ 2000) : parseS (g ++ l ++ g) = parseS l := by
  unfold parseS
  rw [if_neg (by simp; omega), if_neg (by omega), parseV_gap hg]
end Go.Proofs.YtkboplcffailoaaDoor

/- What appendByte and AppendBool do: bytes behind a row that the call has made. -/
set_option linter.unusedSimpArgs false
set_option linter.unusedVariables false
namespace Go.Proofs.YtkboplcffailoaaDoor
open Go.RowKit

/- A row of bytes, in a block from B on, or none. -/
def BRow (w : World) (B : Nat) (v : Value) (acc : List UInt8) : Prop := w.ownsRow B 5 1 v acc.length (Lib.byteCells acc)
theorem BRow.nil (w : World) (B : Nat) : BRow w B (.slice none 0 0) [] := World.ownsRow_nil _ _ _ _
theorem BRow.drewN {w : World} {B : Nat} {v : Value} {acc : List UInt8} (h : BRow w B v acc) (n : Nat) : BRow (w.drewN n) B v acc := h
theorem BRow.alloc {w : World} {B : Nat} {v : Value} {acc : List UInt8} (h : BRow w B v acc) (o : Obj) : BRow (w.alloc o) B v acc := World.ownsRow.alloc h o
/- Nothing changes below B, and above it nothing but rows of bytes. -/
def Fr (B : Nat) (w w' : World) : Prop := Below B w w' ∧ Lib.OthersKept 5 none w w'
theorem Fr.refl (B : Nat) (w : World) : Fr B w w := ⟨Below.refl B w, Lib.OthersKept.refl _ _ _⟩
theorem Fr.trans {B : Nat} {a w w' : World} (h : Fr B a w) (k : Fr B w w') : Fr B a w' := ⟨h.1.trans k.1, h.2.trans k.2⟩
theorem Fr.size {B : Nat} {w w' : World} (h : Fr B w w') : w.heap.size ≤ w'.heap.size := h.1.size
theorem fr_own {w w' : World} {B : Nat} {v : Value} {acc : List UInt8} (h : BRow w B v acc) (hg : w.grownBy w' v.ownBlock) (hB : B ≤ w.heap.size) : Fr B w w' := by
  refine ⟨⟨hg.os, hg.tape, hg.output, hg.size, fun k hk => hg.block k (by omega) (fun e => by have := (World.ownsRow.lt h k e.symm).1; omega)⟩, ?_⟩
  intro k o ho _ hno
  have hk : k < w.heap.size := (Array.getElem?_eq_some_iff.1 ho).1
  refine (hg.block k hk ?_).trans ho
  intro e
  rcases h.2 with ⟨hv, -⟩ | ⟨g, cap, cur, hv, -, hh, -⟩
  · subst hv; simp [Value.ownBlock] at e
  · subst hv
    simp only [Value.ownBlock, Option.some.injEq] at e
    subst e
    rw [hh] at ho
    cases ho
    exact hno _ _ rfl
theorem fr_alloc (w : World) (B : Nat) (o : Obj) (hB : B ≤ w.heap.size) : Fr B w (w.alloc o) := ⟨(Below.refl B w).alloc hB o, (Lib.OthersKept.refl _ _ _).alloc o⟩
theorem fr_drewN (w : World) (B n : Nat) : Fr B w (w.drewN n) := ⟨⟨rfl, rfl, rfl, Nat.le_refl _, fun _ _ => rfl⟩, (Lib.OthersKept.refl _ _ _).drewN n⟩
theorem Fr.box {B : Nat} {w w' : World} (h : Fr B w w') {g : Nat} {c0 c1 c2 c3 c4 : Value} (hb : BoxIs w g c0 c1 c2 c3 c4) : BoxIs w' g c0 c1 c2 c3 c4 :=
  h.2 g _ hb (by simp) (by intro c fz e; simp at e)
theorem cells_append (acc news : List UInt8) : Lib.byteCells acc ++ Lib.byteCells news = Lib.byteCells (acc ++ news) := by simp [Lib.byteCells]
theorem cells_one (news : List UInt8) : ∀ u ∈ Lib.byteCells news, u.oneCell' = true := by
  intro u hu
  simp only [Lib.byteCells, List.mem_map] at hu
  obtain ⟨c, -, rfl⟩ := hu
  rfl
theorem cells_len (news : List UInt8) : (Lib.byteCells news).length = news.length := by simp [Lib.byteCells]

theorem wp_bytes {w : World} {o : Oper} {a : Act} {K : Act → World → Prop} {Q : Exit → Act → World → Prop} (s x : Operand)
    (ho : o.op = .call { callee := .builtin .append, args := #[s, x], argTypes := #[51, 51] }) (B : Nat) (v : Value) (acc news : List UInt8) (cs : Array Value) (hcs : cs.toList = Lib.byteCells news) (m : Nat) (hm : m = news.length) (hs : a.eval s = v)
    (hx : a.eval x = .slice (some ⟨w.heap.size, 0, none⟩) m m) (hown : BRow w B v acc) (hB : B ≤ w.heap.size) (hl : acc.length ≤ 1000000000) (hn : m ≤ 1000)
    (hK : ∀ v' w', BRow w' B v' (acc ++ news) → Fr B w w' → K (a.put o.dst v') w') : o.wp Tryd.prog a (w.alloc (.cells cs 5)) K Q := by
  obtain ⟨i0, hi, hz0, hz1, hz2⟩ := info_parts infoByte
  refine wp_append_own _ s x 51 ho B 5 i0 (.int .u8 0) 1 1 Tryd.underlying51 hi hz0 hz1 hz2 rfl (by decide) v acc.length (Lib.byteCells acc) hs (World.ownsRow.alloc hown _) ⟨w.heap.size, 0, none⟩ m m (Lib.byteCells news) hx (by rw [cells_len, hm]; simp)
    ?_ (cells_one news) (by unfold maxLen; omega) (by omega) (by simp; omega) ?_
  · intro j u hj
    rw [← hcs] at hj
    rw [addr_add]
    simp only [World.cell?, heap_alloc_new, Nat.zero_add]
    simpa using hj
  · intro v' w' h1 h2 _
    rw [cells_append, hm, ← List.length_append] at h1
    exact hK v' w' h1 ((fr_alloc w B _ hB).trans (fr_own (BRow.alloc hown _) h2 (by simp; omega)))
theorem step_bytes {w : World} {ops : Array Oper} {o : Oper} {a : Act} {K : Act → World → Prop} {Q : Exit → Act → World → Prop} {E : Prop} (hgd : o.guard = none) (s x : Operand)
    (ho : o.op = .call { callee := .builtin .append, args := #[s, x], argTypes := #[51, 51] }) (B : Nat) (v : Value) (acc news : List UInt8) (cs : Array Value) (hcs : cs.toList = Lib.byteCells news) (m : Nat) (hm : m = news.length) (hs : a.eval s = v)
    (hx : a.eval x = .slice (some ⟨w.heap.size, 0, none⟩) m m) (hown : BRow w B v acc) (hB : B ≤ w.heap.size) (hl : acc.length ≤ 1000000000) (hn : m ≤ 1000)
    (hK : ∀ v' w', BRow w' B v' (acc ++ news) → Fr B w w' → K (a.put o.dst v') w') : if Region.wanted o (yielded ops a.tmps) = true then Oper.wp Tryd.prog o a (w.alloc (.cells cs 5)) K Q else E := by
  have hw : Region.wanted o (yielded ops a.tmps) = true := by simp [Region.wanted, hgd]
  rw [if_pos hw]
  exact wp_bytes s x ho B v acc news cs hcs m hm hs hx hown hB hl hn hK
theorem append_bytes {w : World} {ops : Array Oper} {rest : List Oper} {o : Oper} {a : Act} {Q : Exit → Act → World → Prop} (hgd : o.guard = none) (s x : Operand)
    (ho : o.op = .call { callee := .builtin .append, args := #[s, x], argTypes := #[51, 51] }) (B : Nat) (v : Value) (acc news : List UInt8) (cs : Array Value) (hcs : cs.toList = Lib.byteCells news) (m : Nat) (hm : m = news.length) (hs : a.eval s = v)
    (hx : a.eval x = .slice (some ⟨w.heap.size, 0, none⟩) m m) (hown : BRow w B v acc) (hB : B ≤ w.heap.size) (hl : acc.length ≤ 1000000000) (hn : m ≤ 1000)
    (hK : ∀ v' w', BRow w' B v' (acc ++ news) → Fr B w w' → wpList Tryd.prog ops Q rest (a.put o.dst v') w') : wpList Tryd.prog ops Q (o :: rest) a (w.alloc (.cells cs 5)) :=
  wpList_plain hgd fun _ hKK => wp_bytes s x ho B v acc news cs hcs m hm hs hx hown hB hl hn fun v' w' h2 h3 => hKK _ _ (hK v' w' h2 h3)
theorem append_text {w : World} {ops : Array Oper} {rest : List Oper} {o : Oper} {a : Act} {Q : Exit → Act → World → Prop} (hgd : o.guard = none) (s x : Operand)
    (ho : o.op = .call { callee := .builtin .append, args := #[s, x], argTypes := #[51, 9] }) (B : Nat) (v : Value) (acc news : List UInt8) (hs : a.eval s = v)
    (hx : a.eval x = .string ⟨news.toArray⟩) (hown : BRow w B v acc) (hB : B ≤ w.heap.size) (hl : acc.length ≤ 1000000000) (hn : news.length ≤ 1000)
    (hK : ∀ v' w', BRow w' B v' (acc ++ news) → Fr B w w' → wpList Tryd.prog ops Q rest (a.put o.dst v') w') : wpList Tryd.prog ops Q (o :: rest) a w := by
  obtain ⟨i0, hi, hz0, hz1, hz2⟩ := info_parts infoByte
  have he : (ByteArray.mk news.toArray).size = news.length := by simp [ByteArray.size]
  refine Lib.wpList_append_own_string w hgd s x 51 9 ho B 5 i0 Tryd.underlying51 Tryd.underlying9 hi hz0 hz1 hz2 v acc.length (Lib.byteCells acc) hs hown ⟨news.toArray⟩ hx (by unfold maxLen; omega) (by omega) hB ?_
  intro v' w' h1 h2 _
  rw [Lib.strCells_toArray, cells_append, he, ← List.length_append] at h1
  exact hK v' w' h1 (fr_own hown h2 hB)

def boolS (b : Bool) : List UInt8 := if b then [116, 114, 117, 101] else [102, 97, 108, 115, 101]

set_option maxRecDepth 100000 in
theorem appendBool_in (w : World) (B : Nat) (v : Value) (acc : List UInt8) (b : Bool) (h : BRow w B v acc) (hB : B ≤ w.heap.size) (hl : acc.length ≤ 1000000000) :
    Calls Tryd.prog 61 #[v, .bool b] w fun e w' => ∃ v', e = .returned v' ∧ BRow w' B v' (acc ++ boolS b) ∧ Fr B w w' := by
  have H := hidI h
  clear h
  cases b with
  | true =>
    go_enter Tryd.func61, Tryd.ntmps61
    go_wp2_with (at_builtin; go_must (refine append_text rfl _ _ rfl B v acc [116, 114, 117, 101] rfl rfl H.out hB hl (by decide) ?_); intro v4 w4 hown4 hgrow4; refine Hid.out ?_)
    refine hidI ?_
    have D := hidI (And.intro hown4 hgrow4)
    clear hown4 hgrow4
    go_wp2_with fail
    go_ret
    exact ⟨v4, rfl, D.out⟩
  | false =>
    go_enter Tryd.func61, Tryd.ntmps61
    go_wp2_with (at_builtin; go_must (refine append_text rfl _ _ rfl B v acc [102, 97, 108, 115, 101] rfl rfl H.out hB hl (by decide) ?_); intro v4 w4 hown4 hgrow4; refine Hid.out ?_)
    refine hidI ?_
    have D := hidI (And.intro hown4 hgrow4)
    clear hown4 hgrow4
    go_wp2_with fail
    go_ret
    exact ⟨v4, rfl, D.out⟩
set_option maxRecDepth 100000 in
theorem appendBool_at (w : World) (B : Nat) (v : Value) (acc : List UInt8) (b : Bool) (h : BRow w B v acc) (hB : B ≤ w.heap.size) (hl : acc.length ≤ 1000000000) :
    Calls Tryd.prog 46 #[v, .bool b] w fun e w' => ∃ v', e = .returned v' ∧ BRow w' B v' (acc ++ boolS b) ∧ Fr B w w' := by
  have H := hidI h
  clear h
  go_enter Tryd.func46, Tryd.ntmps46
  go_wp2_with (go_at_call 61; refine (appendBool_in _ B v acc b H.out hB hl).mono ?_; rintro e w1 ⟨v1, rfl, h1, hb1⟩)
  have D := hidI (And.intro h1 hb1)
  clear h1 hb1
  go_wp2_with fail
  go_ret
  exact ⟨v1, rfl, D.out⟩

def markedL : List UInt8 := [34, 92, 8, 12, 10, 13, 9]
def hexL : List UInt8 := [48, 49, 50, 51, 52, 53, 54, 55, 56, 57, 97, 98, 99, 100, 101, 102]
def hexd (n : Nat) : UInt8 := hexL.getD n 0
def byteS (c : UInt8) : List UInt8 :=
  if c = 34 then [92, 34] else if c = 92 then [92, 92] else if c = 8 then [92, 98] else if c = 12 then [92, 102] else if c = 10 then [92, 110] else if c = 13 then [92, 114] else if c = 9 then [92, 116]
  else if c.toNat < 32 ∨ c.toNat = 127 then [92, 117, 48, 48, hexd (c.toNat / 16), hexd (c.toNat % 16)] else [c]
theorem byteS_len (c : UInt8) : (byteS c).length ≤ 6 := by
  unfold byteS
  repeat' split
  all_goals simp

theorem byteS_marked (c : UInt8) (h : c ∈ markedL) : ∃ i : Nat, i < 7 ∧ Lib.indexByte markedL c = i ∧ ∃ d, ([34, 92, 98, 102, 110, 114, 116] : List UInt8)[i]? = some d ∧ byteS c = [92, d] := by
  simp only [markedL, List.mem_cons, List.not_mem_nil, or_false] at h
  rcases h with rfl | rfl | rfl | rfl | rfl | rfl | rfl
  · exact ⟨0, by decide, by decide, 34, rfl, by decide⟩
  · exact ⟨1, by decide, by decide, 92, rfl, by decide⟩
  · exact ⟨2, by decide, by decide, 98, rfl, by decide⟩
  · exact ⟨3, by decide, by decide, 102, rfl, by decide⟩
  · exact ⟨4, by decide, by decide, 110, rfl, by decide⟩
  · exact ⟨5, by decide, by decide, 114, rfl, by decide⟩
  · exact ⟨6, by decide, by decide, 116, rfl, by decide⟩
theorem idx_none (c : UInt8) : ∀ (l : List UInt8), c ∉ l → Lib.indexByte l c = -1
  | [], _ => rfl
  | x :: l, h => by
    have h1 : (x == c) = false := by rw [beq_eq_false_iff_ne]; rintro rfl; exact h (List.mem_cons_self ..)
    simp [Lib.indexByte, h1, idx_none c l fun hh => h (List.mem_cons_of_mem _ hh)]
theorem byteS_rest (c : UInt8) (h : c ∉ markedL) : byteS c = if c.toNat < 32 ∨ c.toNat = 127 then [92, 117, 48, 48, hexd (c.toNat / 16), hexd (c.toNat % 16)] else [c] := by
  simp only [markedL, List.mem_cons, List.not_mem_nil, or_false, not_or] at h
  obtain ⟨h1, h2, h3, h4, h5, h6, h7⟩ := h
  simp [byteS, h1, h2, h3, h4, h5, h6, h7]
end Go.Proofs.YtkboplcffailoaaDoor

/- What appendByte and appendQuoted of package json do. -/
set_option linter.unusedSimpArgs false
set_option linter.unusedVariables false
namespace Go.Proofs.YtkboplcffailoaaDoor
open Go.RowKit

theorem ba_get {l : List UInt8} {i : Nat} {d : UInt8} (hd : l[i]? = some d) (h : i < (ByteArray.mk l.toArray).size) : (ByteArray.mk l.toArray)[i] = d := by
  obtain ⟨h1, h2⟩ := List.getElem?_eq_some_iff.1 hd
  rw [← h2]; rfl

theorem step_bytesD {w : World} {ops : Array Oper} {o : Oper} {a : Act} {K : Act → World → Prop} {Q : Exit → Act → World → Prop} {E : Prop} (hgd : o.guard = none) (s x : Operand)
    (ho : o.op = .call { callee := .builtin .append, args := #[s, x], argTypes := #[51, 51] }) (B : Nat) (v : Value) (acc news : List UInt8) (cs : Array Value) (hcs : cs.toList = Lib.byteCells news) (m : Nat) (hm : m = news.length) (hs : a.eval s = v)
    (hx : a.eval x = .slice (some ⟨w.heap.size, 0, none⟩) m m) (hown : BRow w B v acc) (hB : B ≤ w.heap.size) (hl : acc.length ≤ 1000000000) (hn : m ≤ 1000)
    (hK : ∀ v' w', BRow w' B v' (acc ++ news) → Fr B w w' → K (a.put o.dst v') w') : if Region.wanted o (yielded ops a.tmps) = true then Oper.wp Tryd.prog o a (w.alloc (.cells cs 5)).drew K Q else E :=
  step_bytes (w := w.drew) hgd s x ho B v acc news cs hcs m hm hs hx hown hB hl hn fun v' w' h1 h2 => hK v' w' h1 ⟨⟨h2.1.os, h2.1.tape, h2.1.output, h2.1.size, h2.1.block⟩, h2.2⟩

set_option maxRecDepth 100000 in
set_option maxHeartbeats 2000000 in
theorem appendByte_at (w : World) (B : Nat) (v : Value) (acc : List UInt8) (c : UInt8) (h : BRow w B v acc) (hB : B ≤ w.heap.size) (hl : acc.length ≤ 1000000000) :
    Calls Tryd.prog 63 #[v, .int .u8 c.toNat] w fun e w' => ∃ v', e = .returned v' ∧ BRow w' B v' (acc ++ byteS c) ∧ Fr B w w' := by
  have H := hidI h
  clear h
  have hc : ((c.toNat : Int).toNat).toUInt8 = c := by simp
  by_cases hm : c ∈ markedL
  · obtain ⟨i, hi, e1, d, hd, e2⟩ := byteS_marked c hm
    have E2 := hidI e2
    clear e2 hm
    have e1' : Lib.indexByte (ByteArray.mk #[34, 92, 8, 12, 10, 13, 9]).data.toList ((c.toNat : Int).toNat).toUInt8 = i := by rw [hc]; exact e1
    have hi7 : i < (ByteArray.mk #[34, 92, 98, 102, 110, 114, 116]).size := hi
    have hd' := ba_get hd hi7
    clear hd e1
    go_enter Tryd.func63, Tryd.ntmps63
    go_wp2_with fail
    refine (Tryd.strings_IndexByte _ _ _).mono ?_
    rintro e w1 ⟨rfl, rfl⟩
    rw [e1']
    clear e1'
    go_wp2_with (at_builtin; go_must (refine append_bytes rfl _ _ rfl B v acc [92, d] _ (by simp [Lib.byteCells, hd']) 2 rfl rfl rfl H.out hB hl (by decide) ?_); intro v4 w4 hown4 hgrow4; refine Hid.out ?_)
    refine hidI ?_
    have D := hidI (And.intro hown4 hgrow4)
    clear hown4 hgrow4
    go_wp2_with fail
    go_ret
    exact ⟨v4, rfl, by rw [E2.out]; exact D.out.1, D.out.2⟩
  · have e1' : Lib.indexByte (ByteArray.mk #[34, 92, 8, 12, 10, 13, 9]).data.toList ((c.toNat : Int).toNat).toUInt8 = -1 := by rw [hc]; exact idx_none c _ hm
    have E2 := hidI (byteS_rest c hm)
    clear hm
    have hlt : c.toNat < 256 := c.toNat_lt
    have fin : Hid (∀ (w' : World) (v' : Value) (news : List UInt8), (c.toNat < 32 ∨ c.toNat = 127) → news = [92, 117, 48, 48, hexd (c.toNat / 16), hexd (c.toNat % 16)] → BRow w' B v' (acc ++ news) → BRow w' B v' (acc ++ byteS c)) := fun w' v' news h1 h2 h3 => by rw [E2.out, if_pos h1, ← h2]; exact h3
    obtain ⟨q, hq⟩ : ∃ q, q = c.toNat / 16 := ⟨_, rfl⟩
    obtain ⟨r, hr⟩ : ∃ r, r = c.toNat % 16 := ⟨_, rfl⟩
    have q1 : IntKind.u8.wrap ((c.toNat : Int) / 16) = (q : Int) := by
      rw [hq]
      simp only [IntKind.wrap, IntKind.signed, IntKind.bits]
      simp
      omega
    have r1 : ((c.toNat : Int)).tmod 16 = (r : Int) := by rw [hr, Int.tmod_eq_emod_of_nonneg (by omega)]; omega
    have q6 : IntKind.u8.wrap (q : Int) = (q : Int) := by
      simp only [IntKind.wrap, IntKind.signed, IntKind.bits]
      simp
      omega
    have q5 : (c.toNat : Int) / 16 = (q : Int) := by omega
    have r5 : (c.toNat : Int) % 16 = (r : Int) := by omega
    have q2 : (q : Int) < 16 := by omega
    have r2 : (r : Int) < 16 := by omega
    have q3 : q < (ByteArray.mk #[48, 49, 50, 51, 52, 53, 54, 55, 56, 57, 97, 98, 99, 100, 101, 102]).size := by show q < 16; omega
    have r3 : r < (ByteArray.mk #[48, 49, 50, 51, 52, 53, 54, 55, 56, 57, 97, 98, 99, 100, 101, 102]).size := by show r < 16; omega
    have q4 : (ByteArray.mk #[48, 49, 50, 51, 52, 53, 54, 55, 56, 57, 97, 98, 99, 100, 101, 102])[q] = hexd q := ba_get (l := hexL) (by unfold hexd; rw [List.getD_eq_getElem?_getD, List.getElem?_eq_getElem (show q < hexL.length from q3)]; rfl) q3
    have r4 : (ByteArray.mk #[48, 49, 50, 51, 52, 53, 54, 55, 56, 57, 97, 98, 99, 100, 101, 102])[r] = hexd r := ba_get (l := hexL) (by unfold hexd; rw [List.getD_eq_getElem?_getD, List.getElem?_eq_getElem (show r < hexL.length from r3)]; rfl) r3
    have HQ := hidI hq
    have HR := hidI hr
    clear hq hr
    by_cases h2 : c.toNat < 32
    · have g1 : (c.toNat : Int) < 32 := by omega
      go_enter Tryd.func63, Tryd.ntmps63
      go_wp2_with fail
      refine (Tryd.strings_IndexByte _ _ _).mono ?_
      rintro e w1 ⟨rfl, rfl⟩
      rw [e1']
      clear e1'
      go_wp2_with fail
      go_region_law ((first | (refine step_bytesD (by rfl) _ _ (by rfl) B v acc [92, 117, 48, 48, hexd q, hexd r] _ (by simp [Lib.byteCells, q4, r4]) 6 (by rfl) (by rfl) (by rfl) (by exact H.out) (by exact hB) hl (by decide) ?_; intro v4 w4 hown4 hgrow4) | fail))
      all_goals
        have D := hidI (And.intro hown4 hgrow4)
        clear hown4 hgrow4
        go_wp2_with fail
        go_ret
        exact ⟨v4, rfl, fin.out _ _ _ (.inl h2) (by rw [HQ.out, HR.out]) D.out.1, D.out.2⟩
    · have g1 : ¬ (c.toNat : Int) < 32 := by omega
      by_cases h3 : c.toNat = 127
      · have hc127 : c = 127 := UInt8.toNat_inj.1 h3
        subst hc127
        clear fin HQ HR q1 r1 q2 r2 q3 r3 q4 r4 q5 q6 r5 e1' E2 hlt g1 h2 h3 hc
        show Calls Tryd.prog 63 #[v, .int .u8 127] w _
        have w7 : IntKind.u8.wrap 7 = 7 := by decide
        have x7 : (ByteArray.mk #[48, 49, 50, 51, 52, 53, 54, 55, 56, 57, 97, 98, 99, 100, 101, 102])[7]'(by decide) = 55 := ba_get (l := hexL) rfl _
        have x15 : (ByteArray.mk #[48, 49, 50, 51, 52, 53, 54, 55, 56, 57, 97, 98, 99, 100, 101, 102])[15]'(by decide) = 102 := ba_get (l := hexL) rfl _
        go_enter Tryd.func63, Tryd.ntmps63
        go_wp2_with fail
        refine (Tryd.strings_IndexByte _ _ _).mono ?_
        rintro e w1 ⟨rfl, rfl⟩
        rw [show Lib.indexByte (ByteArray.mk #[34, 92, 8, 12, 10, 13, 9]).data.toList (Int.toNat 127).toUInt8 = -1 from by decide]
        go_wp2_with fail
        go_region_law ((first | (refine step_bytesD (by rfl) _ _ (by rfl) B v acc [92, 117, 48, 48, 55, 102] _ (by simp [Lib.byteCells, x7, x15]) 6 (by rfl) (by rfl) (by rfl) (by exact H.out) (by exact hB) hl (by decide) ?_; intro v4 w4 hown4 hgrow4) | fail))
        all_goals
          have D := hidI (And.intro hown4 hgrow4)
          clear hown4 hgrow4
          go_wp2_with fail
          go_ret
          exact ⟨v4, rfl, D.out.1, D.out.2⟩
      · have g2 : ((c.toNat : Int) == 127) = false := by rw [beq_eq_false_iff_ne]; omega
        go_enter Tryd.func63, Tryd.ntmps63
        go_wp2_with fail
        refine (Tryd.strings_IndexByte _ _ _).mono ?_
        rintro e w1 ⟨rfl, rfl⟩
        rw [e1']
        clear e1'
        go_wp2_with (at_builtin; go_must (refine append_bytes rfl _ _ rfl B v acc [c] _ (by simp [Lib.byteCells]) 1 rfl rfl rfl H.out hB hl (by decide) ?_); intro v4 w4 hown4 hgrow4; refine Hid.out ?_)
        refine hidI ?_
        have D := hidI (And.intro hown4 hgrow4)
        clear hown4 hgrow4
        go_wp2_with fail
        go_ret
        exact ⟨v4, rfl, by rw [E2.out, if_neg (by omega)]; exact D.out.1, D.out.2⟩

def quoteS (s : List UInt8) : List UInt8 := 34 :: s.flatMap byteS ++ [34]
theorem flat_len (s : List UInt8) : (s.flatMap byteS).length ≤ 6 * s.length := by
  induction s with
  | nil => simp
  | cons c s ih => have := byteS_len c; simp only [List.flatMap_cons, List.length_append, List.length_cons]; omega
theorem take_step {α : Type} {l : List α} {k : Nat} {x : α} (h : l[k]? = some x) : l.take (k + 1) = l.take k ++ [x] := by
  rw [List.take_add_one, h]; rfl

set_option maxRecDepth 100000 in
set_option maxHeartbeats 2000000 in
theorem appendQuoted_at (w : World) (B : Nat) (v : Value) (acc s : List UInt8) (h : BRow w B v acc) (hB : B ≤ w.heap.size) (hl : acc.length ≤ 100000000) (hs : s.length ≤ 1000000) :
    Calls Tryd.prog 48 #[v, str s] w fun e w' => ∃ v', e = .returned v' ∧ BRow w' B v' (acc ++ quoteS s) ∧ Fr B w w' := by
  have H := hidI h
  clear h
  unfold str
  go_enter Tryd.func48, Tryd.ntmps48
  go_wp2_with (at_builtin; go_must (refine append_bytes rfl _ _ rfl B v acc [34] _ (by rfl) 1 rfl rfl rfl H.out hB (by omega) (by decide) ?_); intro v4 w4 hown4 hgrow4; refine Hid.out ?_)
  refine hidI ?_
  have D := hidI (And.intro hown4 hgrow4)
  clear hown4 hgrow4
  go_wp2_with fail
  go_loopg [0, 5] s.length (fun gk u i wr => ∃ (k : Nat), k ≤ s.length ∧ gk = s.length - k ∧ i = .int .i64 k ∧ BRow wr B u (acc ++ [34] ++ (s.take k).flatMap byteS) ∧ Fr B w wr)
  case atStart => exact ⟨0, Nat.zero_le _, rfl, rfl, by simpa using D.out.1, D.out.2⟩
  case round =>
    obtain ⟨k, hk, hgk, rfl, hrow, hbel⟩ := hrel
    have hlen : (acc ++ [34] ++ (s.take k).flatMap byteS).length ≤ 107000000 := by
      have := flat_len (s.take k)
      have h9 : (s.take k).length ≤ 1000000 := by rw [List.length_take]; omega
      simp only [List.length_append, List.length_cons, List.length_nil]; omega
    have A := hidI (And.intro hrow hbel)
    have hBr : B ≤ wr.heap.size := Nat.le_trans hB hbel.size
    clear hrow hbel
    by_cases hlt : k < s.length
    · have c1 : (k : Int) < (s.length : Int) := by omega
      have c2 : k < (ByteArray.mk s.toArray).size := by simpa [ByteArray.size] using hlt
      have hx : s[k]? = some s[k] := List.getElem?_eq_getElem hlt
      have c3 := ba_get hx c2
      go_wp2_with fail
      refine (appendByte_at _ B u0 _ s[k] A.out.1 hBr (by omega)).mono ?_
      rintro e w5 ⟨v5, rfl, hrow5, hbel5⟩
      have D5 := hidI (And.intro hrow5 hbel5)
      clear hrow5 hbel5
      go_wp2_with fail
      go_roundg (s.length - (k + 1))
      case measure => omega
      case rel => exact ⟨k + 1, hlt, rfl, rfl, by rw [take_step hx, List.flatMap_append, ← List.append_assoc]; simpa using D5.out.1, A.out.2.trans D5.out.2⟩
    · have c1 : ¬ (k : Int) < (s.length : Int) := by omega
      have hk' : k = s.length := by omega
      subst hk'
      go_wp2_with (at_builtin; go_must (refine append_bytes rfl _ _ rfl B u0 _ [34] _ (by rfl) 1 rfl rfl rfl A.out.1 hBr (by omega) (by decide) ?_); intro v5 w5 hown5 hgrow5; refine Hid.out ?_)
      refine hidI ?_
      have D5 := hidI (And.intro hown5 hgrow5)
      clear hown5 hgrow5
      go_wp2_with fail
      go_ret
      exact ⟨v5, rfl, by simpa [quoteS] using D5.out.1, A.out.2.trans D5.out.2⟩
end Go.Proofs.YtkboplcffailoaaDoor

set_option linter.unusedSimpArgs false
set_option linter.unusedVariables false
namespace Go.Proofs.YtkboplcffailoaaDoor
open Go.RowKit

def commaS : List (List UInt8) → List UInt8
  | [] => []
  | [x] => x
  | x :: y :: r => x ++ 44 :: commaS (y :: r)
theorem commaS_snoc (x : List UInt8) : ∀ xs, commaS (xs ++ [x]) = (if xs = [] then [] else commaS xs ++ [44]) ++ x
  | [] => by simp [commaS]
  | [y] => by simp [commaS]
  | y :: z :: r => by
    have h := commaS_snoc x (z :: r)
    simp only [List.cons_append, commaS, reduceCtorEq, if_false] at h ⊢
    rw [h]; simp
theorem commaS_prefix : ∀ (xs : List (List UInt8)) (k : Nat), ∃ r, commaS xs = commaS (xs.take k) ++ r
  | [], k => ⟨[], by simp [commaS]⟩
  | [x], 0 => ⟨x, by simp [commaS]⟩
  | [x], k + 1 => ⟨[], by simp [commaS]⟩
  | x :: y :: r, 0 => ⟨_, by simp [commaS]; rfl⟩
  | x :: y :: r, 1 => ⟨44 :: commaS (y :: r), by simp [commaS]⟩
  | x :: y :: r, k + 2 => by
    obtain ⟨s, h⟩ := commaS_prefix (y :: r) (k + 1)
    refine ⟨s, ?_⟩
    simp only [List.take_succ_cons, commaS] at h ⊢
    rw [h]; simp
def pairS (g : V → List UInt8) (ks : List (List UInt8)) (l : List V) : List (List UInt8) := List.zipWith (fun k x => quoteS k ++ 58 :: g x) ks l
def printS : Nat → V → List UInt8
  | 0, _ => []
  | d + 1, t => if t.kind = 0 then [110, 117, 108, 108] else if t.kind = 1 then boolS (t.n == 1) else if t.kind = 2 then Lib.itoa t.n else if t.kind = 3 then quoteS t.s
    else if t.kind = 4 then 91 :: commaS (t.l.map (printS d)) ++ [93] else 123 :: commaS (pairS (printS d) t.keys t.l) ++ [125]
def SmallV : Nat → V → Prop
  | 0, _ => True
  | d + 1, t => t.s.length ≤ 1000 ∧ (t.kind ≠ 4 → t.l.length ≤ t.keys.length) ∧ (∀ k ∈ t.keys, k.length ≤ 1000) ∧ ∀ x ∈ t.l, SmallV d x

/- What is said of appendValue. -/
def AppC (d : Nat) : Prop := ∀ (w : World) (B : Nat) (v : Value) (acc : List UInt8) (t : V) (val : Value), VIs w (fun k => k < B) d t val → SmallV d t → BRow w B v acc → B ≤ w.heap.size → Glob w → 4 ≤ B → acc.length + (printS d t).length ≤ 100000000 →
    Calls Tryd.prog 30 #[v, val] w fun e w' => ∃ v', e = .returned v' ∧ BRow w' B v' (acc ++ printS d t) ∧ Fr B w w'

theorem VIs.fr {w w' : World} {B d : Nat} {t : V} {v : Value} (h : VIs w (fun k => k < B) d t v) (hf : Fr B w w') : VIs w' (fun k => k < B) d t v :=
  VIs.imp (fun a x h1 h2 => ⟨h1, (World.cell?_of_block (hf.1.block _ h1)).trans h2⟩) d h
theorem Glob.fr {w w' : World} {B : Nat} (h : Glob w) (hf : Fr B w w') (hB : 4 ≤ B) : Glob w' := by
  obtain ⟨⟨tp, p, t, f, h1⟩, ⟨tq, q, t2, f2, h2⟩, ⟨t3, f3, h3⟩⟩ := h
  exact ⟨⟨tp, p, t, f, (hf.1.block _ (by omega)).trans h1⟩, ⟨tq, q, t2, f2, (hf.1.block _ (by omega)).trans h2⟩, ⟨t3, f3, (hf.1.block _ (by omega)).trans h3⟩⟩
theorem part_len {xs : List (List UInt8)} {k : Nat} {x : List UInt8} (hx : xs[k]? = some x) : (commaS (xs.take k)).length + (if k = 0 then 0 else 1) + x.length ≤ (commaS xs).length := by
  obtain ⟨r, hr⟩ := commaS_prefix xs (k + 1)
  rw [take_step hx, commaS_snoc] at hr
  have hlt := (List.getElem?_eq_some_iff.1 hx).1
  rw [hr]
  by_cases hk : k = 0
  · subst hk; simp [commaS]
  · have h9 : xs.take k ≠ [] := by
      intro e; have := congrArg List.length e; simp only [List.length_take, List.length_nil] at this; omega
    simp only [if_neg h9, if_neg hk, List.length_append, List.length_cons, List.length_nil]; omega

theorem append_bytesG {w : World} {ops : Array Oper} {rest : List Oper} {o : Oper} {a : Act} {Q : Exit → Act → World → Prop} (hgd : o.guard = none) (s x : Operand)
    (ho : o.op = .call { callee := .builtin .append, args := #[s, x], argTypes := #[51, 51] }) (B : Nat) (v : Value) (acc news : List UInt8) (cs : Array Value) (hcs : cs.toList = Lib.byteCells news) (m : Nat) (hm : m = news.length) (hs : a.eval s = v) (g : Nat) (hg : w.heap.size = g)
    (hx : a.eval x = .slice (some ⟨g, 0, none⟩) m m) (hown : BRow w B v acc) (hB : B ≤ w.heap.size) (hl : acc.length ≤ 1000000000) (hn : m ≤ 1000)
    (hK : ∀ v' w', BRow w' B v' (acc ++ news) → Fr B w w' → wpList Tryd.prog ops Q rest (a.put o.dst v') w') : wpList Tryd.prog ops Q (o :: rest) a (w.alloc (.cells cs 5)) :=
  append_bytes hgd s x ho B v acc news cs hcs m hm hs (by rw [hg]; exact hx) hown hB hl hn hK
set_option maxRecDepth 100000 in
set_option maxHeartbeats 4000000 in
theorem appendList_st (d : Nat) (ih : AppC d) (w : World) (B : Nat) (v : Value) (acc : List UInt8) (t : V) (val : Value) (hv : VIs w (fun k => k < B) (d + 1) t val) (hsm : SmallV (d + 1) t) (h : BRow w B v acc) (hB : B ≤ w.heap.size) (hG : Glob w) (hgB : 4 ≤ B)
    (hl : acc.length + (commaS (t.l.map (printS d))).length + 2 ≤ 100000000) :
    Calls Tryd.prog 49 #[v, val] w fun e w' => ∃ v', e = .returned v' ∧ BRow w' B v' (acc ++ (91 :: commaS (t.l.map (printS d)) ++ [93])) ∧ Fr B w w' := by
  obtain ⟨a7, a8, c7, c8, rfl⟩ := hv.shape
  have HV := hidI hv
  have IH := hidI ih
  have H := hidI h
  have HG := hidI hG
  have HS := hidI hsm
  have l2 : t.l.length ≤ maxLen := by obtain ⟨ks, ls, e, h1, h2, h3, h4, h5⟩ := hv; exact h5.1
  unfold maxLen at l2
  clear hv ih h hG hsm
  have hB1 : B ≤ (w.alloc (.cells #[.int .i64 t.kind, .int .i64 t.n, .string ⟨t.s.toArray⟩, .slice a7 t.keys.length c7, .slice a8 t.l.length c8] 25)).heap.size := by simp; omega
  go_enter Tryd.func49, Tryd.ntmps49
  go_wp2_with (at_builtin; go_must (refine append_bytesG rfl _ _ rfl B v acc [91] _ (by rfl) 1 rfl rfl (w.heap.size + 1) (by simp) rfl (by exact H.out.alloc _) hB1 (by omega) (by decide) ?_); intro v4 w4 hown4 hgrow4; refine Hid.out ?_)
  refine hidI ?_
  have q4 := (hgrow4.box (g := w.heap.size) (heap_alloc_new w _)).c.2.2.2.2.1
  have D := hidI (And.intro hown4 ((fr_alloc w B _ hB).trans hgrow4))
  clear hown4 hgrow4
  go_wp2_with fail
  go_loopg [0, 13] t.l.length (fun gk u i wr => ∃ (k : Nat), k ≤ t.l.length ∧ gk = t.l.length - k ∧ i = .int .i64 k ∧ BRow wr B u (acc ++ [91] ++ commaS ((t.l.map (printS d)).take k)) ∧ Fr B w wr)
  case atStart => exact ⟨0, Nat.zero_le _, rfl, rfl, by simpa [commaS] using D.out.1, D.out.2⟩
  case round =>
    obtain ⟨k, hk, hgk, rfl, hrow, hbel⟩ := hrel
    have A := hidI (And.intro hrow hbel)
    have hBr : B ≤ wr.heap.size := Nat.le_trans hB hbel.size
    clear hrow hbel q4
    by_cases hlt : k < t.l.length
    · have hvr := HV.out.fr A.out.2
      have hxm : (t.l.map (printS d))[k]? = some (printS d t.l[k]) := by rw [List.getElem?_map, List.getElem?_eq_getElem hlt]; rfl
      have hpl := part_len hxm
      have HX := hidI hxm
      clear hxm
      obtain ⟨ks, ls, e, -, -, -, -, h5⟩ := hvr
      simp only [Value.agg.injEq, Array.mk.injEq, List.cons.injEq, and_true] at e
      obtain ⟨-, -, -, -, rfl⟩ := e
      obtain ⟨_, h5⟩ := h5
      rcases h5 with ⟨e, _⟩ | ⟨b, off, c, hls, hc1, hc2, hcs⟩
      · rw [e] at hlt; simp at hlt
      simp only [Value.slice.injEq] at hls
      obtain ⟨rfl, -, rfl⟩ := hls
      obtain ⟨v0, v1, v2, v3, v4', g', g0, g1, g2, g3, g4, g5⟩ := hcs k t.l[k] (List.getElem?_eq_getElem hlt)
      have G5 := hidI g5
      obtain ⟨rfl, rfl, rfl, ⟨a5, c5, rfl⟩, ⟨a6, c6, rfl⟩⟩ := g5.agg
      clear hcs g5
      unfold maxLen at hc2
      have hsx : Hid (SmallV d t.l[k]) := HS.out.2.2.2 _ (List.getElem_mem hlt)
      have hBr1 : ∀ o, B ≤ (wr.alloc o).heap.size := fun o => by simp; omega
      by_cases hk0 : k = 0
      · subst hk0
        simp only [Nat.zero_mul, Nat.add_zero] at g0 g1 g2 g3 g4
        go_wp2_with fail
        refine (IH.out _ B u0 (acc ++ [91] ++ commaS ((t.l.map (printS d)).take 0)) t.l[0] _ (by exact G5.out.fr (fr_alloc _ _ _ hBr)) hsx.out (by exact A.out.1.alloc _) (by exact hBr1 _) (by exact HG.out.fr (A.out.2.trans (fr_alloc _ _ _ hBr)) hgB) hgB ?_).mono ?_
        · simp only [if_true] at hpl
          simp only [List.length_append, List.length_cons, List.length_nil]; omega
        rintro e w5 ⟨v5, rfl, hrow5, hbel5⟩
        have D5 := hidI (And.intro hrow5 hbel5)
        clear hrow5 hbel5
        go_wp2_with fail
        go_roundg (t.l.length - 1)
        case measure => omega
        case rel => exact ⟨1, hlt, rfl, by go_num, by rw [take_step HX.out, commaS_snoc]; simpa [commaS] using D5.out.1, A.out.2.trans ((fr_alloc _ _ _ hBr).trans D5.out.2)⟩
      · have hk1 : 0 < (k : Int) := by omega
        have h9 : Hid ((t.l.map (printS d)).take k ≠ []) := by
          intro e; have := congrArg List.length e; simp only [List.length_take, List.length_map, List.length_nil] at this; omega
        have hl9 : (acc ++ [91] ++ commaS ((t.l.map (printS d)).take k)).length ≤ 1000000000 := by
          simp only [List.length_append, List.length_cons, List.length_nil]; omega
        go_wp2_with (at_builtin; go_must (refine append_bytesG rfl _ _ rfl B u0 _ [44] _ (by rfl) 1 rfl rfl (wr.heap.size + 1) (by simp) rfl (by exact A.out.1.alloc _) (hBr1 _) hl9 (by decide) ?_); intro v6 w6 hown6 hgrow6; refine Hid.out ?_)
        refine hidI ?_
        obtain ⟨p0, p1, p2, p3, p4, -⟩ := (hgrow6.box (g := wr.heap.size) (heap_alloc_new wr _)).c
        have D6 := hidI (And.intro hown6 ((fr_alloc wr B _ hBr).trans hgrow6))
        have hB6 : B ≤ w6.heap.size := Nat.le_trans hBr D6.out.2.size
        clear hown6 hgrow6
        go_wp2_with fail
        refine (IH.out _ B v6 (acc ++ [91] ++ commaS ((t.l.map (printS d)).take k) ++ [44]) t.l[k] _ (by exact G5.out.fr D6.out.2) hsx.out (by exact D6.out.1) hB6 (by exact HG.out.fr (A.out.2.trans D6.out.2) hgB) hgB ?_).mono ?_
        · simp only [if_neg hk0] at hpl
          simp only [List.length_append, List.length_cons, List.length_nil]; omega
        rintro e w5 ⟨v5, rfl, hrow5, hbel5⟩
        have D5 := hidI (And.intro hrow5 hbel5)
        clear hrow5 hbel5
        go_wp2_with fail
        go_roundg (t.l.length - (k + 1))
        case measure => omega
        case rel => exact ⟨k + 1, hlt, rfl, by go_num, by rw [take_step HX.out, commaS_snoc, if_neg h9.out]; simpa using D5.out.1, A.out.2.trans (D6.out.2.trans D5.out.2)⟩
    · have hke : k = t.l.length := by omega
      subst hke
      have htk : Hid ((t.l.map (printS d)).take t.l.length = t.l.map (printS d)) := hidI (List.take_of_length_le (by simp))
      have hl9 : (acc ++ [91] ++ commaS ((t.l.map (printS d)).take t.l.length)).length ≤ 1000000000 := by
        rw [htk.out]; simp only [List.length_append, List.length_cons, List.length_nil]; omega
      go_wp2_with (at_builtin; go_must (refine append_bytes rfl _ _ rfl B u0 _ [93] _ (by rfl) 1 rfl rfl rfl A.out.1 hBr hl9 (by decide) ?_); intro v5 w5 hown5 hgrow5; refine Hid.out ?_)
      refine hidI ?_
      have D5 := hidI (And.intro hown5 hgrow5)
      clear hown5 hgrow5
      go_wp2_with fail
      go_ret
      have h8 := D5.out.1
      rw [htk.out] at h8
      exact ⟨v5, rfl, by simpa using h8, A.out.2.trans D5.out.2⟩
end Go.Proofs.YtkboplcffailoaaDoor

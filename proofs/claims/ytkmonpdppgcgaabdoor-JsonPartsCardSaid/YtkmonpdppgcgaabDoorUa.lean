/- Spaces ahead of a text and behind it change nothing of what is read of it. -/
import Derived.Test.YtkmonpdppgcgaabDoorPa
set_option linter.unusedSimpArgs false
set_option linter.unusedVariables false
namespace Go.Proofs.YtkmonpdppgcgaabDoor
open Go.RowKit

/- Spaces. -/
def Gap (g : List UInt8) : Prop := ∀ c ∈ g, isSp c = true
theorem drop_idem (l : List UInt8) : (l.dropWhile isSp).dropWhile isSp = l.dropWhile isSp := by
  induction l with
  | nil => rfl
  | cons c l ih =>
    by_cases h : isSp c = true
    · rw [List.dropWhile_cons, if_pos h, ih]
    · rw [List.dropWhile_cons, if_neg h, List.dropWhile_cons, if_neg h]
theorem drop_gap {g : List UInt8} (hg : Gap g) (l : List UInt8) : (g ++ l).dropWhile isSp = l.dropWhile isSp := by
  induction g with
  | nil => rfl
  | cons c g ih =>
    rw [List.cons_append, List.dropWhile_cons, if_pos (hg c (by simp))]
    exact ih fun x hx => hg x (by simp [hx])
theorem drop_gap_nil {g : List UInt8} (hg : Gap g) : g.dropWhile isSp = [] := by
  have := drop_gap hg []
  simpa using this
theorem drop_behind {g : List UInt8} (hg : Gap g) (l : List UInt8) : (l ++ g).dropWhile isSp = if l.dropWhile isSp = [] then [] else l.dropWhile isSp ++ g := by
  induction l with
  | nil => simpa using drop_gap_nil hg
  | cons c l ih =>
    by_cases h : isSp c = true
    · rw [List.cons_append, List.dropWhile_cons, if_pos h, ih, List.dropWhile_cons, if_pos h]
    · rw [List.cons_append, List.dropWhile_cons, if_neg h, List.dropWhile_cons, if_neg h]
      simp

theorem markS_drop (c : UInt8) (l : List UInt8) : markS c (l.dropWhile isSp) = markS c l := by
  unfold markS; rw [drop_idem]
theorem markS_behind {g : List UInt8} (hg : Gap g) (c : UInt8) (l : List UInt8) : markS c (l ++ g) = (markS c l).map (· ++ g) := by
  unfold markS
  rw [drop_behind hg]
  cases h : l.dropWhile isSp with
  | nil => simp
  | cons x r =>
    simp only [List.cons_append, reduceCtorEq, if_false]
    split <;> rfl

theorem gap_no {c : UInt8} (h : isSp c = true) : c = 32 ∨ c = 9 ∨ c = 10 ∨ c = 13 := by
  simp only [isSp, Bool.or_eq_true, beq_iff_eq] at h
  rcases h with ((h | h) | h) | h <;> simp [h]
theorem hexv_gap {c : UInt8} (h : isSp c = true) : hexv c = none := by
  rcases gap_no h with rfl | rfl | rfl | rfl <;> rfl
theorem isNum_gap {c : UInt8} (h : isSp c = true) : isNum c = false := by
  rcases gap_no h with rfl | rfl | rfl | rfl <;> rfl
theorem digS_behind {g : List UInt8} (hg : Gap g) (l : List UInt8) : digS (l ++ g) = (digS l).map fun p => (p.1, p.2 ++ g) := by
  cases l with
  | nil =>
    cases g with
    | nil => rfl
    | cons c g => simp [digS, hexv_gap (hg c (by simp))]
  | cons c l => simp [digS, Function.comp_def]
theorem digsS_behind {g : List UInt8} (hg : Gap g) (k : Nat) : ∀ (n : Nat) (l : List UInt8), digsS k n (l ++ g) = (digsS k n l).map fun p => (p.1, p.2 ++ g) := by
  induction k with
  | zero => intro n l; rfl
  | succ k ih =>
    intro n l
    simp only [digsS, digS_behind hg]
    cases digS l with
    | none => rfl
    | some p => exact ih _ _
theorem codedS_behind {g : List UInt8} (hg : Gap g) (l : List UInt8) : codedS (l ++ g) = (codedS l).map fun p => (p.1, p.2 ++ g) := by
  simp only [codedS, digsS_behind hg]
  cases digsS 4 0 l with
  | none => rfl
  | some p => simp only [Option.map_some, Option.bind_some]; split <;> rfl
theorem escS_behind {g : List UInt8} (hg : Gap g) (l : List UInt8) : escS (l ++ g) = (escS l).map fun p => (p.1, p.2 ++ g) := by
  cases l with
  | nil =>
    cases g with
    | nil => rfl
    | cons c g => rcases gap_no (hg c (by simp)) with rfl | rfl | rfl | rfl <;> rfl
  | cons c l =>
    simp only [List.cons_append, escS]
    split
    · exact codedS_behind hg l
    · split
      · rfl
      · cases escB c <;> rfl
theorem bodyS_gap (n : Nat) : ∀ (acc g : List UInt8), Gap g → bodyS n acc g = none := by
  induction n with
  | zero => intro acc g h; rfl
  | succ n ih =>
    intro acc g h
    cases g with
    | nil => rfl
    | cons c g =>
      rcases gap_no (h c (by simp)) with rfl | rfl | rfl | rfl <;> simp [bodyS]
      exact ih _ _ fun x hx => h x (by simp [hx])
theorem bodyS_behind {g : List UInt8} (hg : Gap g) (n : Nat) : ∀ (acc l : List UInt8), bodyS n acc (l ++ g) = (bodyS n acc l).map fun p => (p.1, p.2 ++ g) := by
  induction n with
  | zero => intro acc l; rfl
  | succ n ih =>
    intro acc l
    cases l with
    | nil => rw [List.nil_append, bodyS_gap _ _ _ hg]; rfl
    | cons c l =>
      simp only [List.cons_append, bodyS]
      split
      · rfl
      · split
        · rw [escS_behind hg]
          cases escS l with
          | none => rfl
          | some p => exact ih _ _
        · split
          · rfl
          · exact ih _ _
theorem quotS_behind {g : List UInt8} (hg : Gap g) (l : List UInt8) : quotS (l ++ g) = (quotS l).map fun p => (p.1, p.2 ++ g) := by
  simp only [quotS, markS_behind hg]
  cases markS 34 l with
  | none => rfl
  | some r =>
    simp only [Option.map_some, Option.bind_some]
    rw [bodyS_behind hg, bodyS_fuel _ (r.length + 1) _ _ (by simp; omega) (by omega)]
theorem quotS_drop (l : List UInt8) : quotS (l.dropWhile isSp) = quotS l := by
  simp only [quotS, markS_drop]
theorem pre_behind {g : List UInt8} (hg : Gap g) : ∀ (wd l : List UInt8), (∀ c ∈ wd, isSp c = false) → wd.isPrefixOf (l ++ g) = wd.isPrefixOf l
  | [], l, _ => by simp [List.isPrefixOf]
  | c :: wd, [], h => by
    cases g with
    | nil => rfl
    | cons x g =>
      have h1 := h c (by simp)
      have h2 := hg x (by simp)
      have : c ≠ x := by rintro rfl; rw [h1] at h2; cases h2
      simp [List.isPrefixOf, this]
  | c :: wd, x :: l, h => by
    rw [List.cons_append, List.isPrefixOf, List.isPrefixOf, pre_behind hg wd l fun y hy => h y (by simp [hy])]
theorem wordS_behind {g : List UInt8} (hg : Gap g) (wd l : List UInt8) (h : ∀ c ∈ wd, isSp c = false) : wordS wd (l ++ g) = (wordS wd l).map (· ++ g) := by
  unfold wordS
  rw [pre_behind hg wd l h]
  split
  · rename_i hp
    have := List.IsPrefix.length_le (List.isPrefixOf_iff_prefix.1 hp)
    simp [List.drop_append_of_le_length this]
  · rfl
theorem takeNum_behind {g : List UInt8} (hg : Gap g) (l : List UInt8) : (l ++ g).takeWhile isNum = l.takeWhile isNum := by
  induction l with
  | nil =>
    cases g with
    | nil => rfl
    | cons c g => simp [isNum_gap (hg c (by simp))]
  | cons c l ih =>
    rw [List.cons_append, List.takeWhile_cons, List.takeWhile_cons, ih]
theorem dropNum_behind {g : List UInt8} (hg : Gap g) (l : List UInt8) : (l ++ g).dropWhile isNum = l.dropWhile isNum ++ g := by
  induction l with
  | nil =>
    cases g with
    | nil => rfl
    | cons c g => simp [isNum_gap (hg c (by simp))]
  | cons c l ih =>
    rw [List.cons_append, List.dropWhile_cons, List.dropWhile_cons, ih]
    split <;> rfl
theorem numS_behind {g : List UInt8} (hg : Gap g) (l : List UInt8) : numS (l ++ g) = (numS l).map fun p => (p.1, p.2 ++ g) := by
  unfold numS
  rw [takeNum_behind hg, dropNum_behind hg]
  split
  · split <;> rfl
  · rfl

abbrev Rd := List UInt8 → Option (V × List UInt8)
def Hom (g : List UInt8) (f : Rd) : Prop := ∀ l, f (l ++ g) = (f l).map fun p => (p.1, p.2 ++ g)
def Dr (f : Rd) : Prop := ∀ l, f (l.dropWhile isSp) = f l
theorem Hom.drop {g : List UInt8} {f : Rd} (h : Hom g f) (hd : Dr f) (l : List UInt8) : f ((l ++ g).dropWhile isSp) = (f (l.dropWhile isSp)).map fun p => (p.1, p.2 ++ g) := by
  rw [hd, hd, h]

theorem itemsS_fuelU {f : Rd} (hf : Less f) (n : Nat) : ∀ (m : Nat) (acc : List V) (l : List UInt8), l.length < n → l.length < m → itemsS f n acc l = itemsS f m acc l := by
  induction n with
  | zero => intro m acc l h; omega
  | succ n ih =>
    intro m acc l h1 h2
    cases m with
    | zero => omega
    | succ m =>
      simp only [itemsS]
      cases hm : markS 44 l with
      | none => rfl
      | some r =>
        have := markS_len hm
        cases he : f r with
        | none => simp only [he, Option.bind_none]
        | some p =>
          have := hf _ _ he
          simp only [he, Option.bind_some]
          exact ih m _ _ (by omega) (by omega)
theorem membsS_fuelU {f : Rd} (hf : Less f) (n : Nat) : ∀ (m : Nat) (v : V) (l : List UInt8), l.length < n → l.length < m → membsS f n v l = membsS f m v l := by
  induction n with
  | zero => intro m acc l h; omega
  | succ n ih =>
    intro m acc l h1 h2
    cases m with
    | zero => omega
    | succ m =>
      simp only [membsS]
      cases hm : markS 44 l with
      | none => rfl
      | some r =>
        have := markS_len hm
        cases he : memS f acc r with
        | none => simp only [he, Option.bind_none]
        | some p =>
          have := memS_len hf _ _ _ he
          simp only [he, Option.bind_some]
          exact ih m _ _ (by omega) (by omega)
theorem itemsS_behind {g : List UInt8} (hg : Gap g) {f : Rd} (h : Hom g f) (n : Nat) : ∀ (acc : List V) (l : List UInt8), itemsS f n acc (l ++ g) = (itemsS f n acc l).map fun p => (p.1, p.2 ++ g) := by
  induction n with
  | zero => intro acc l; rfl
  | succ n ih =>
    intro acc l
    simp only [itemsS, markS_drop, markS_behind hg]
    cases markS 44 l with
    | none => simp only [Option.map_none]; cases markS 93 l <;> rfl
    | some r =>
      simp only [Option.map_some, h r]
      cases f r with
      | none => rfl
      | some p => exact ih _ _
theorem memS_behind {g : List UInt8} (hg : Gap g) {f : Rd} (h : Hom g f) (v : V) : Hom g (memS f v) := by
  intro l
  simp only [memS, quotS_behind hg]
  cases quotS l with
  | none => rfl
  | some q =>
    simp only [Option.map_some, Option.bind_some, markS_behind hg]
    cases markS 58 q.2 with
    | none => rfl
    | some r =>
      simp only [Option.map_some, Option.bind_some, h r]
      cases f r with
      | none => rfl
      | some p => simp only [Option.map_some, Option.bind_some]; split <;> rfl
theorem memS_drop (f : Rd) (v : V) : Dr (memS f v) := by
  intro l
  simp only [memS, quotS_drop]
theorem membsS_behind {g : List UInt8} (hg : Gap g) {f : Rd} (h : Hom g f) (n : Nat) : ∀ (v : V) (l : List UInt8), membsS f n v (l ++ g) = (membsS f n v l).map fun p => (p.1, p.2 ++ g) := by
  induction n with
  | zero => intro acc l; rfl
  | succ n ih =>
    intro acc l
    simp only [membsS, markS_drop, markS_behind hg]
    cases markS 44 l with
    | none => simp only [Option.map_none]; cases markS 125 l <;> rfl
    | some r =>
      simp only [Option.map_some, memS_behind hg h acc r]
      cases memS f acc r with
      | none => rfl
      | some p => exact ih _ _
theorem listS_behind {g : List UInt8} (hg : Gap g) {f : Rd} (h : Hom g f) (hd : Dr f) (hl : Less f) : Hom g (listS f) := by
  intro l
  simp only [listS, markS_behind hg]
  cases markS 91 l with
  | none => rfl
  | some r =>
    simp only [Option.map_some, Option.bind_some, markS_behind hg]
    cases markS 93 r with
    | some r2 => rfl
    | none =>
      simp only [Option.map_none, h.drop hd]
      cases f (r.dropWhile isSp) with
      | none => rfl
      | some p =>
        simp only [Option.map_some, Option.bind_some]
        rw [itemsS_behind hg h, itemsS_fuelU hl _ (p.2.length + 1) _ _ (by simp; omega) (by omega)]
theorem objS_behind {g : List UInt8} (hg : Gap g) {f : Rd} (h : Hom g f) (hl : Less f) : Hom g (objS f) := by
  intro l
  simp only [objS, markS_behind hg]
  cases markS 123 l with
  | none => rfl
  | some r =>
    simp only [Option.map_some, Option.bind_some, markS_behind hg]
    cases markS 125 r with
    | some r2 => rfl
    | none =>
      simp only [Option.map_none, (memS_behind hg h _).drop (memS_drop f _)]
      cases memS f ⟨5, 0, [], [], []⟩ (r.dropWhile isSp) with
      | none => rfl
      | some p =>
        simp only [Option.map_some, Option.bind_some]
        rw [membsS_behind hg h, membsS_fuelU hl _ (p.2.length + 1) _ _ (by simp; omega) (by omega)]
theorem oneS_nil (f : Rd) : oneS f [] = none := by
  have : numS [] = none := by
    unfold numS
    split
    · rename_i v hv; exact absurd hv (atoi_nil v)
    · rfl
  unfold oneS
  simp [hd0, this]
theorem oneS_behind {g : List UInt8} (hg : Gap g) {f : Rd} (h : Hom g f) (hd : Dr f) (hl : Less f) (l : List UInt8) (hne : l ≠ []) : oneS f (l ++ g) = (oneS f l).map fun p => (p.1, p.2 ++ g) := by
  have e : hd0 (l ++ g) = hd0 l := by
    cases l with
    | nil => exact absurd rfl hne
    | cons c l => rfl
  unfold oneS
  rw [e]
  split
  · rw [wordS_behind hg _ _ (by decide)]; cases wordS [110, 117, 108, 108] l <;> rfl
  split
  · rw [wordS_behind hg _ _ (by decide)]; cases wordS [102, 97, 108, 115, 101] l <;> rfl
  split
  · rw [wordS_behind hg _ _ (by decide)]; cases wordS [116, 114, 117, 101] l <;> rfl
  split
  · rw [quotS_behind hg]; cases quotS l <;> rfl
  split
  · exact listS_behind hg h hd hl l
  split
  · exact objS_behind hg h hl l
  · rw [numS_behind hg]; cases numS l <;> rfl
theorem valS_drop (k : Nat) : Dr (valS k) := by
  intro l
  cases k with
  | zero => rfl
  | succ k => simp only [valS, drop_idem]
theorem valS_behind {g : List UInt8} (hg : Gap g) (k : Nat) : Hom g (valS k) := by
  induction k with
  | zero => intro l; rfl
  | succ k ih =>
    intro l
    simp only [valS]
    rw [drop_behind hg]
    split
    · rename_i e; rw [e, oneS_nil]; rfl
    · rename_i e
      exact oneS_behind hg ih (valS_drop k) (valS_len k) _ e

/- Two readers that tell the same of short texts. -/
def Agr (n : Nat) (f f' : Rd) : Prop := ∀ l, l.length < n → f l = f' l
theorem itemsS_agr {f f' : Rd} {N : Nat} (h : Agr N f f') (hf : Less f) (n : Nat) : ∀ (acc : List V) (l : List UInt8), l.length < N → itemsS f n acc l = itemsS f' n acc l := by
  induction n with
  | zero => intro acc l _; rfl
  | succ n ih =>
    intro acc l hl
    simp only [itemsS]
    cases hm : markS 44 l with
    | none => rfl
    | some r =>
      have := markS_len hm
      simp only [← h r (by omega)]
      cases he : f r with
      | none => rfl
      | some p =>
        have := hf _ _ he
        exact ih _ _ (by omega)
theorem memS_agr {f f' : Rd} {N : Nat} (h : Agr N f f') (v : V) (l : List UInt8) (hl : l.length < N) : memS f v l = memS f' v l := by
  simp only [memS]
  cases hq : quotS l with
  | none => rfl
  | some q =>
    have := quotS_len hq
    simp only [Option.bind_some]
    cases hm : markS 58 q.2 with
    | none => rfl
    | some r =>
      have := markS_len hm
      simp only [Option.bind_some, ← h r (by omega)]
theorem membsS_agr {f f' : Rd} {N : Nat} (h : Agr N f f') (hf : Less f) (n : Nat) : ∀ (v : V) (l : List UInt8), l.length < N → membsS f n v l = membsS f' n v l := by
  induction n with
  | zero => intro acc l _; rfl
  | succ n ih =>
    intro acc l hl
    simp only [membsS]
    cases hm : markS 44 l with
    | none => rfl
    | some r =>
      have := markS_len hm
      simp only [← memS_agr h acc r (by omega)]
      cases he : memS f acc r with
      | none => rfl
      | some p =>
        have := memS_len hf _ _ _ he
        exact ih _ _ (by omega)
theorem oneS_agr {f f' : Rd} {N : Nat} (h : Agr N f f') (hf : Less f) (l : List UInt8) (hl : l.length ≤ N) : oneS f l = oneS f' l := by
  have eL : listS f l = listS f' l := by
    simp only [listS]
    cases hm : markS 91 l with
    | none => rfl
    | some r =>
      have := markS_len hm
      have := dropSp_len r
      simp only [Option.bind_some, ← h (r.dropWhile isSp) (by omega)]
      split
      · rfl
      · cases he : f (r.dropWhile isSp) with
        | none => rfl
        | some p =>
          have := hf _ _ he
          exact itemsS_agr h hf _ _ _ (by omega)
  have eO : objS f l = objS f' l := by
    simp only [objS]
    cases hm : markS 123 l with
    | none => rfl
    | some r =>
      have := markS_len hm
      have := dropSp_len r
      simp only [Option.bind_some, ← memS_agr h _ (r.dropWhile isSp) (by omega)]
      split
      · rfl
      · cases he : memS f ⟨5, 0, [], [], []⟩ (r.dropWhile isSp) with
        | none => rfl
        | some p =>
          have := memS_len hf _ _ _ he
          exact membsS_agr h hf _ _ _ (by omega)
  unfold oneS
  rw [eL, eO]
theorem valS_fuel (n : Nat) : ∀ (m : Nat) (l : List UInt8), l.length < n → l.length < m → valS n l = valS m l := by
  induction n with
  | zero => intro m l h; omega
  | succ n ih =>
    intro m l h1 h2
    cases m with
    | zero => omega
    | succ m =>
      simp only [valS]
      have hd := dropSp_len l
      exact oneS_agr (N := l.length) (fun x hx => ih m x (by omega) (by omega)) (valS_len n) _ hd

theorem parseV_gap {g : List UInt8} (hg : Gap g) (l : List UInt8) : parseV (g ++ l ++ g) = parseV l := by
  unfold parseV
  have e : valS ((g ++ l ++ g).length + 1) (g ++ l ++ g) = (valS (l.length + 1) l).map fun p => (p.1, p.2 ++ g) := by
    rw [← valS_drop, List.append_assoc, drop_gap hg, valS_drop, valS_behind hg, valS_fuel _ (l.length + 1) _ (by simp; omega) (by omega)]
  rw [e]
  cases valS (l.length + 1) l with
  | none => rfl
  | some p =>
    simp only [Option.map_some, Option.bind_some]
    have : ((p.2 ++ g).dropWhile isSp = []) = (p.2.dropWhile isSp = []) := by
      rw [drop_behind hg]
      split
      · rename_i h; simp [h]
      · rename_i h; simp [h]
    simp only [this]
theorem parseS_gap {g : List UInt8} (hg : Gap g) (l : List UInt8) (h : l.length + 2 * g.length ≤ 2000) : parseS (g ++ l ++ g) = parseS l := by
  unfold parseS
  rw [if_neg (by simp; omega), if_neg (by omega), parseV_gap hg]
end Go.Proofs.YtkmonpdppgcgaabDoor

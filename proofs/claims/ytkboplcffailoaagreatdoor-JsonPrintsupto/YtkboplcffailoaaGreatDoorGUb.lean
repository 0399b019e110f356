/- What is printed of a good value is read as it. -/
import Derived.Test.YtkboplcffailoaaGreatDoorGPa
import Derived.Test.YtkboplcffailoaaGreatDoorGQf
import Derived.Test.YtkboplcffailoaaGreatDoorUp
/- Spaces ahead of a text and behind it change nothing of what is read of it. -/
set_option linter.unusedSimpArgs false
set_option linter.unusedVariables false
namespace Go.Proofs.YtkboplcffailoaaGreatDoor
open Go.RowKit

/- Spaces. -/
def Gap (g : List UInt8) : Prop := ∀ c ∈ g, isSp c = true
theorem drop_idem (l : List UInt8) : (l.dropWhile isSp).dropWhile isSp = l.dropWhile isSp := by
  induction l with
  | nil => rfl
  | cons c l ih =>
    by_cases h : isSp c = true
    · rw [List.dropWhile_cons, if_pos h, ih]
    · rw [List.dropWhile_cons, if_neg h, List.dropWhile_cons, if_neg h]
theorem drop_gap {g : List UInt8} (hg : Gap g) (l : List UInt8) : (g ++ l).dropWhile isSp = l.dropWhile isSp := by
  induction g with
  | nil => rfl
  | cons c g ih =>
    rw [List.cons_append, List.dropWhile_cons, if_pos (hg c (by simp))]
    exact ih fun x hx => hg x (by simp [hx])
theorem drop_gap_nil {g : List UInt8} (hg : Gap g) : g.dropWhile isSp = [] := by
  have := drop_gap hg []
  simpa using this
theorem drop_behind {g : List UInt8} (hg : Gap g) (l : List UInt8) : (l ++ g).dropWhile isSp = if l.dropWhile isSp = [] then [] else l.dropWhile isSp ++ g := by
  induction l with
  | nil => simpa using drop_gap_nil hg
  | cons c l ih =>
    by_cases h : isSp c = true
    · rw [List.cons_append, List.dropWhile_cons, if_pos h, ih, List.dropWhile_cons, if_pos h]
    · rw [List.cons_append, List.dropWhile_cons, if_neg h, List.dropWhile_cons, if_neg h]
      simp

theorem markS_drop (c : UInt8) (l : List UInt8) : markS c (l.dropWhile isSp) = markS c l := by
  unfold markS; rw [drop_idem]
theorem markS_behind {g : List UInt8} (hg : Gap g) (c : UInt8) (l : List UInt8) : markS c (l ++ g) = (markS c l).map (· ++ g) := by
  unfold markS
  rw [drop_behind hg]
  cases h : l.dropWhile isSp with
  | nil => simp
  | cons x r =>
    simp only [List.cons_append, reduceCtorEq, if_false]
    split <;> rfl

theorem gap_no {c : UInt8} (h : isSp c = true) : c = 32 ∨ c = 9 ∨ c = 10 ∨ c = 13 := by
  simp only [isSp, Bool.or_eq_true, beq_iff_eq] at h
  rcases h with ((h | h) | h) | h <;> simp [h]
theorem hexv_gap {c : UInt8} (h : isSp c = true) : hexv c = none := by
  rcases gap_no h with rfl | rfl | rfl | rfl <;> rfl
theorem isNum_gap {c : UInt8} (h : isSp c = true) : isNum c = false := by
  rcases gap_no h with rfl | rfl | rfl | rfl <;> rfl
theorem digS_behind {g : List UInt8} (hg : Gap g) (l : List UInt8) : digS (l ++ g) = (digS l).map fun p => (p.1, p.2 ++ g) := by
  cases l with
  | nil =>
    cases g with
    | nil => rfl
    | cons c g => simp [digS, hexv_gap (hg c (by simp))]
  | cons c l => simp [digS, Function.comp_def]
theorem digsS_behind {g : List UInt8} (hg : Gap g) (k : Nat) : ∀ (n : Nat) (l : List UInt8), digsS k n (l ++ g) = (digsS k n l).map fun p => (p.1, p.2 ++ g) := by
  induction k with
  | zero => intro n l; rfl
  | succ k ih =>
    intro n l
    simp only [digsS, digS_behind hg]
    cases digS l with
    | none => rfl
    | some p => exact ih _ _
theorem codedS_behind {g : List UInt8} (hg : Gap g) (l : List UInt8) : codedS (l ++ g) = (codedS l).map fun p => (p.1, p.2 ++ g) := by
  simp only [codedS, digsS_behind hg]
  cases digsS 4 0 l with
  | none => rfl
  | some p => simp only [Option.map_some, Option.bind_some]; split <;> rfl
theorem escS_behind {g : List UInt8} (hg : Gap g) (l : List UInt8) : escS (l ++ g) = (escS l).map fun p => (p.1, p.2 ++ g) := by
  cases l with
  | nil =>
    cases g with
    | nil => rfl
    | cons c g => rcases gap_no (hg c (by simp)) with rfl | rfl | rfl | rfl <;> rfl
  | cons c l =>
    simp only [List.cons_append, escS]
    split
    · exact codedS_behind hg l
    · split
      · rfl
      · cases escB c <;> rfl
theorem bodyS_gap (n : Nat) : ∀ (acc g : List UInt8), Gap g → bodyS n acc g = none := by
  induction n with
  | zero => intro acc g h; rfl
  | succ n ih =>
    intro acc g h
    cases g with
    | nil => rfl
    | cons c g =>
      rcases gap_no (h c (by simp)) with rfl | rfl | rfl | rfl <;> simp [bodyS]
      exact ih _ _ fun x hx => h x (by simp [hx])
theorem bodyS_behind {g : List UInt8} (hg : Gap g) (n : Nat) : ∀ (acc l : List UInt8), bodyS n acc (l ++ g) = (bodyS n acc l).map fun p => (p.1, p.2 ++ g) := by
  induction n with
  | zero => intro acc l; rfl
  | succ n ih =>
    intro acc l
    cases l with
    | nil => rw [List.nil_append, bodyS_gap _ _ _ hg]; rfl
    | cons c l =>
      simp only [List.cons_append, bodyS]
      split
      · rfl
      · split
        · rw [escS_behind hg]
          cases escS l with
          | none => rfl
          | some p => exact ih _ _
        · split
          · rfl
          · exact ih _ _
theorem quotS_behind {g : List UInt8} (hg : Gap g) (l : List UInt8) : quotS (l ++ g) = (quotS l).map fun p => (p.1, p.2 ++ g) := by
  simp only [quotS, markS_behind hg]
  cases markS 34 l with
  | none => rfl
  | some r =>
    simp only [Option.map_some, Option.bind_some]
    rw [bodyS_behind hg, bodyS_fuel _ (r.length + 1) _ _ (by simp; omega) (by omega)]
theorem quotS_drop (l : List UInt8) : quotS (l.dropWhile isSp) = quotS l := by
  simp only [quotS, markS_drop]
theorem pre_behind {g : List UInt8} (hg : Gap g) : ∀ (wd l : List UInt8), (∀ c ∈ wd, isSp c = false) → wd.isPrefixOf (l ++ g) = wd.isPrefixOf l
  | [], l, _ => by simp [List.isPrefixOf]
  | c :: wd, [], h => by
    cases g with
    | nil => rfl
    | cons x g =>
      have h1 := h c (by simp)
      have h2 := hg x (by simp)
      have : c ≠ x := by rintro rfl; rw [h1] at h2; cases h2
      simp [List.isPrefixOf, this]
  | c :: wd, x :: l, h => by
    rw [List.cons_append, List.isPrefixOf, List.isPrefixOf, pre_behind hg wd l fun y hy => h y (by simp [hy])]
theorem wordS_behind {g : List UInt8} (hg : Gap g) (wd l : List UInt8) (h : ∀ c ∈ wd, isSp c = false) : wordS wd (l ++ g) = (wordS wd l).map (· ++ g) := by
  unfold wordS
  rw [pre_behind hg wd l h]
  split
  · rename_i hp
    have := List.IsPrefix.length_le (List.isPrefixOf_iff_prefix.1 hp)
    simp [List.drop_append_of_le_length this]
  · rfl
theorem takeNum_behind {g : List UInt8} (hg : Gap g) (l : List UInt8) : (l ++ g).takeWhile isNum = l.takeWhile isNum := by
  induction l with
  | nil =>
    cases g with
    | nil => rfl
    | cons c g => simp [isNum_gap (hg c (by simp))]
  | cons c l ih =>
    rw [List.cons_append, List.takeWhile_cons, List.takeWhile_cons, ih]
theorem dropNum_behind {g : List UInt8} (hg : Gap g) (l : List UInt8) : (l ++ g).dropWhile isNum = l.dropWhile isNum ++ g := by
  induction l with
  | nil =>
    cases g with
    | nil => rfl
    | cons c g => simp [isNum_gap (hg c (by simp))]
  | cons c l ih =>
    rw [List.cons_append, List.dropWhile_cons, List.dropWhile_cons, ih]
    split <;> rfl
theorem numS_behind {g : List UInt8} (hg : Gap g) (l : List UInt8) : numS (l ++ g) = (numS l).map fun p => (p.1, p.2 ++ g) := by
  unfold numS
  rw [takeNum_behind hg, dropNum_behind hg]
  split
  · split <;> rfl
  · rfl

abbrev Rd := List UInt8 → Option (V × List UInt8)
def Hom (g : List UInt8) (f : Rd) : Prop := ∀ l, f (l ++ g) = (f l).map fun p => (p.1, p.2 ++ g)
def Dr (f : Rd) : Prop := ∀ l, f (l.dropWhile isSp) = f l
theorem Hom.drop {g : List UInt8} {f : Rd} (h : Hom g f) (hd : Dr f) (l : List UInt8) : f ((l ++ g).dropWhile isSp) = (f (l.dropWhile isSp)).map fun p => (p.1, p.2 ++ g) := by
  rw [hd, hd, h]

theorem itemsS_fuelU {f : Rd} (hf : Less f) (n : Nat) : ∀ (m : Nat) (acc : List V) (l : List UInt8), l.length < n → l.length < m → itemsS f n acc l = itemsS f m acc l := by
  induction n with
  | zero => intro m acc l h; omega
  | succ n ih =>
    intro m acc l h1 h2
    cases m with
    | zero => omega
    | succ m =>
      simp only [itemsS]
      cases hm : markS 44 l with
      | none => rfl
      | some r =>
        have := markS_len hm
        cases he : f r with
        | none => simp only [he, Option.bind_none]
        | some p =>
          have := hf _ _ he
          simp only [he, Option.bind_some]
          exact ih m _ _ (by omega) (by omega)
theorem membsS_fuelU {f : Rd} (hf : Less f) (n : Nat) : ∀ (m : Nat) (v : V) (l : List UInt8), l.length < n → l.length < m → membsS f n v l = membsS f m v l := by
  induction n with
  | zero => intro m acc l h; omega
  | succ n ih =>
    intro m acc l h1 h2
    cases m with
    | zero => omega
    | succ m =>
      simp only [membsS]
      cases hm : markS 44 l with
      | none => rfl
      | some r =>
        have := markS_len hm
        cases he : memS f acc r with
        | none => simp only [he, Option.bind_none]
        | some p =>
          have := memS_len hf _ _ _ he
          simp only [he, Option.bind_some]
          exact ih m _ _ (by omega) (by omega)
theorem itemsS_behind {g : List UInt8} (hg : Gap g) {f : Rd} (h : Hom g f) (n : Nat) : ∀ (acc : List V) (l : List UInt8), itemsS f n acc (l ++ g) = (itemsS f n acc l).map fun p => (p.1, p.2 ++ g) := by
  induction n with
  | zero => intro acc l; rfl
  | succ n ih =>
    intro acc l
    simp only [itemsS, markS_drop, markS_behind hg]
    cases markS 44 l with
    | none => simp only [Option.map_none]; cases markS 93 l <;> rfl
    | some r =>
      simp only [Option.map_some, h r]
      cases f r with
      | none => rfl
      | some p => exact ih _ _
theorem memS_behind {g : List UInt8} (hg : Gap g) {f : Rd} (h : Hom g f) (v : V) : Hom g (memS f v) := by
  intro l
  simp only [memS, quotS_behind hg]
  cases quotS l with
  | none => rfl
  | some q =>
    simp only [Option.map_some, Option.bind_some, markS_behind hg]
    cases markS 58 q.2 with
    | none => rfl
    | some r =>
      simp only [Option.map_some, Option.bind_some, h r]
      cases f r with
      | none => rfl
      | some p => simp only [Option.map_some, Option.bind_some]; split <;> rfl
theorem memS_drop (f : Rd) (v : V) : Dr (memS f v) := by
  intro l
  simp only [memS, quotS_drop]
theorem membsS_behind {g : List UInt8} (hg : Gap g) {f : Rd} (h : Hom g f) (n : Nat) : ∀ (v : V) (l : List UInt8), membsS f n v (l ++ g) = (membsS f n v l).map fun p => (p.1, p.2 ++ g) := by
  induction n with
  | zero => intro acc l; rfl
  | succ n ih =>
    intro acc l
    simp only [membsS, markS_drop, markS_behind hg]
    cases markS 44 l with
    | none => simp only [Option.map_none]; cases markS 125 l <;> rfl
    | some r =>
      simp only [Option.map_some, memS_behind hg h acc r]
      cases memS f acc r with
      | none => rfl
      | some p => exact ih _ _
theorem listS_behind {g : List UInt8} (hg : Gap g) {f : Rd} (h : Hom g f) (hd : Dr f) (hl : Less f) : Hom g (listS f) := by
  intro l
  simp only [listS, markS_behind hg]
  cases markS 91 l with
  | none => rfl
  | some r =>
    simp only [Option.map_some, Option.bind_some, markS_behind hg]
    cases markS 93 r with
    | some r2 => rfl
    | none =>
      simp only [Option.map_none, h.drop hd]
      cases f (r.dropWhile isSp) with
      | none => rfl
      | some p =>
        simp only [Option.map_some, Option.bind_some]
        rw [itemsS_behind hg h, itemsS_fuelU hl _ (p.2.length + 1) _ _ (by simp; omega) (by omega)]
theorem objS_behind {g : List UInt8} (hg : Gap g) {f : Rd} (h : Hom g f) (hl : Less f) : Hom g (objS f) := by
  intro l
  simp only [objS, markS_behind hg]
  cases markS 123 l with
  | none => rfl
  | some r =>
    simp only [Option.map_some, Option.bind_some, markS_behind hg]
    cases markS 125 r with
    | some r2 => rfl
    | none =>
      simp only [Option.map_none, (memS_behind hg h _).drop (memS_drop f _)]
      cases memS f ⟨5, 0, [], [], []⟩ (r.dropWhile isSp) with
      | none => rfl
      | some p =>
        simp only [Option.map_some, Option.bind_some]
        rw [membsS_behind hg h, membsS_fuelU hl _ (p.2.length + 1) _ _ (by simp; omega) (by omega)]
theorem oneS_nil (f : Rd) : oneS f [] = none := by
  have : numS [] = none := by
    unfold numS
    split
    · rename_i v hv; exact absurd hv (atoi_nil v)
    · rfl
  unfold oneS
  simp [hd0, this]
theorem oneS_behind {g : List UInt8} (hg : Gap g) {f : Rd} (h : Hom g f) (hd : Dr f) (hl : Less f) (l : List UInt8) (hne : l ≠ []) : oneS f (l ++ g) = (oneS f l).map fun p => (p.1, p.2 ++ g) := by
  have e : hd0 (l ++ g) = hd0 l := by
    cases l with
    | nil => exact absurd rfl hne
    | cons c l => rfl
  unfold oneS
  rw [e]
  split
  · rw [wordS_behind hg _ _ (by decide)]; cases wordS [110, 117, 108, 108] l <;> rfl
  split
  · rw [wordS_behind hg _ _ (by decide)]; cases wordS [102, 97, 108, 115, 101] l <;> rfl
  split
  · rw [wordS_behind hg _ _ (by decide)]; cases wordS [116, 114, 117, 101] l <;> rfl
  split
  · rw [quotS_behind hg]; cases quotS l <;> rfl
  split
  · exact listS_behind hg h hd hl l
  split
  · exact objS_behind hg h hl l
  · rw [numS_behind hg]; cases numS l <;> rfl
theorem valS_drop (k : Nat) : Dr (valS k) := by
  intro l
  cases k with
  | zero => rfl
  | succ k => simp only [valS, drop_idem]
theorem valS_behind {g : List UInt8} (hg : Gap g) (k : Nat) : Hom g (valS k) := by
  induction k with
  | zero => intro l; rfl
  | succ k ih =>
    intro l
    simp only [valS]
    rw [drop_behind hg]
    split
    · rename_i e; rw [e, oneS_nil]; rfl
    · rename_i e
      exact oneS_behind hg ih (valS_drop k) (valS_len k) _ e

/- Two readers that tell the same of short texts. -/
def Agr (n : Nat) (f f' : Rd) : Prop := ∀ l, l.length < n → f l = f' l
theorem itemsS_agr {f f' : Rd} {N : Nat} (h : Agr N f f') (hf : Less f) (n : Nat) : ∀ (acc : List V) (l : List UInt8), l.length < N → itemsS f n acc l = itemsS f' n acc l := by
  induction n with
  | zero => intro acc l _; rfl
  | succ n ih =>
    intro acc l hl
    simp only [itemsS]
    cases hm : markS 44 l with
    | none => rfl
    | some r =>
      have := markS_len hm
      simp only [← h r (by omega)]
      cases he : f r with
      | none => rfl
      | some p =>
        have := hf _ _ he
        exact ih _ _ (by omega)
theorem memS_agr {f f' : Rd} {N : Nat} (h : Agr N f f') (v : V) (l : List UInt8) (hl : l.length < N) : memS f v l = memS f' v l := by
  simp only [memS]
  cases hq : quotS l with
  | none => rfl
  | some q =>
    have := quotS_len hq
    simp only [Option.bind_some]
    cases hm : markS 58 q.2 with
    | none => rfl
    | some r =>
      have := markS_len hm
      simp only [Option.bind_some, ← h r (by omega)]
theorem membsS_agr {f f' : Rd} {N : Nat} (h : Agr N f f') (hf : Less f) (n : Nat) : ∀ (v : V) (l : List UInt8), l.length < N → membsS f n v l = membsS f' n v l := by
  induction n with
  | zero => intro acc l _; rfl
  | succ n ih =>
    intro acc l hl
    simp only [membsS]
    cases hm : markS 44 l with
    | none => rfl
    | some r =>
      have := markS_len hm
      simp only [← memS_agr h acc r (by omega)]
      cases he : memS f acc r with
      | none => rfl
      | some p =>
        have := memS_len hf _ _ _ he
        exact ih _ _ (by omega)
theorem oneS_agr {f f' : Rd} {N : Nat} (h : Agr N f f') (hf : Less f) (l : List UInt8) (hl : l.length ≤ N) : oneS f l = oneS f' l := by
  have eL : listS f l = listS f' l := by
    simp only [listS]
    cases hm : markS 91 l with
    | none => rfl
    | some r =>
      have := markS_len hm
      have := dropSp_len r
      simp only [Option.bind_some, ← h (r.dropWhile isSp) (by omega)]
      split
      · rfl
      · cases he : f (r.dropWhile isSp) with
        | none => rfl
        | some p =>
          have := hf _ _ he
          exact itemsS_agr h hf _ _ _ (by omega)
  have eO : objS f l = objS f' l := by
    simp only [objS]
    cases hm : markS 123 l with
    | none => rfl
    | some r =>
      have := markS_len hm
      have := dropSp_len r
      simp only [Option.bind_some, ← memS_agr h _ (r.dropWhile isSp) (by omega)]
      split
      · rfl
      · cases he : memS f ⟨5, 0, [], [], []⟩ (r.dropWhile isSp) with
        | none => rfl
        | some p =>
          have := memS_len hf _ _ _ he
          exact membsS_agr h hf _ _ _ (by omega)
  unfold oneS
  rw [eL, eO]
theorem valS_fuel (n : Nat) : ∀ (m : Nat) (l : List UInt8), l.length < n → l.length < m → valS n l = valS m l := by
  induction n with
  | zero => intro m l h; omega
  | succ n ih =>
    intro m l h1 h2
    cases m with
    | zero => omega
    | succ m =>
      simp only [valS]
      have hd := dropSp_len l
      exact oneS_agr (N := l.length) (fun x hx => ih m x (by omega) (by omega)) (valS_len n) _ hd

theorem parseV_gap {g : List UInt8} (hg : Gap g) (l : List UInt8) : parseV (g ++ l ++ g) = parseV l := by
  unfold parseV
  have e : valS ((g ++ l ++ g).length + 1) (g ++ l ++ g) = (valS (l.length + 1) l).map fun p => (p.1, p.2 ++ g) := by
    rw [← valS_drop, List.append_assoc, drop_gap hg, valS_drop, valS_behind hg, valS_fuel _ (l.length + 1) _ (by simp; omega) (by omega)]
  rw [e]
  cases valS (l.length + 1) l with
  | none => rfl
  | some p =>
    simp only [Option.map_some, Option.bind_some]
    have : ((p.2 ++ g).dropWhile isSp = []) = (p.2.dropWhile isSp = []) := by
      rw [drop_behind hg]
      split
      · rename_i h; simp [h]
      · rename_i h; simp [h]
    simp only [this]
theorem parseS_gap {g : List UInt8} (hg : Gap g) (l : List UInt8) (h : l.length + 2 * g.length ≤ 2000) : parseS (g ++ l ++ g) = parseS l := by
  unfold parseS
  rw [if_neg (by simp; omega), if_neg (by omega), parseV_gap hg]
end Go.Proofs.YtkboplcffailoaaGreatDoor

set_option linter.unusedSimpArgs false
set_option linter.unusedVariables false
namespace Go.Proofs.YtkboplcffailoaaGreatDoor
open Go.RowKit

theorem zip_congr {f g : V → List UInt8} {ks : List (List UInt8)} {l : List V} (h : ∀ x ∈ l, f x = g x) : pairS f ks l = pairS g ks l := by
  unfold pairS
  induction ks generalizing l with
  | nil => rfl
  | cons k ks ih =>
    cases l with
    | nil => rfl
    | cons x l =>
      rw [List.zipWith_cons_cons, List.zipWith_cons_cons, h x (by simp), ih fun y hy => h y (by simp [hy])]
theorem printS_fuel (d : Nat) : ∀ (d' : Nat) (t : V), Dep d t → Dep d' t → printS d t = printS d' t := by
  induction d with
  | zero => intro d' t h; exact h.elim
  | succ d ih =>
    intro d' t h h'
    cases d' with
    | zero => exact h'.elim
    | succ d' =>
      have e : ∀ x ∈ t.l, printS d x = printS d' x := fun x hx => ih d' x (h x hx) (h' x hx)
      simp only [printS]
      rw [List.map_congr_left e, zip_congr e]

/- Numbers. -/
theorem parseUint_append (l r : List UInt8) : ∀ (a u : Nat), Lib.parseUint10 a l = .ok u → Lib.parseUint10 a (l ++ r) = Lib.parseUint10 u r := by
  induction l with
  | nil => intro a u h; simp only [Lib.parseUint10] at h; cases h; rfl
  | cons c l ih =>
    intro a u h
    simp only [Lib.parseUint10, List.cons_append] at h ⊢
    split at h
    · rename_i hc
      split at h
      · cases h
      · rename_i h1
        split at h
        · cases h
        · rename_i h2
          rw [if_pos hc, if_neg h1, if_neg h2]
          exact ih _ _ h
    · cases h
theorem dig_toNat (d : Nat) (h : d < 10) : (UInt8.ofNat (48 + d)).toNat = 48 + d := by
  rw [UInt8.toNat_ofNat']; omega
theorem parseUint_dec (u : Nat) (h : u < 9223372036854775808) : Lib.parseUint10 0 (Lib.decDigits u) = .ok u := by
  induction u using Nat.strongRecOn with
  | ind u ih =>
    rw [Lib.decDigits]
    split
    · rename_i h1
      simp only [Lib.parseUint10, dig_toNat u h1]
      rw [if_pos (by omega), if_neg (by omega), if_neg (by omega)]
      congr 1; omega
    · rename_i h1
      rw [parseUint_append _ _ _ _ (ih (u / 10) (by omega) (by omega))]
      simp only [Lib.parseUint10, dig_toNat (u % 10) (by omega)]
      rw [if_pos (by omega), if_neg (by omega), if_neg (by omega)]
      congr 1; omega
theorem dec_digits (u : Nat) : ∀ c ∈ Lib.decDigits u, 48 ≤ c.toNat ∧ c.toNat ≤ 57 := by
  induction u using Nat.strongRecOn with
  | ind u ih =>
    rw [Lib.decDigits]
    split
    · rename_i h1
      intro c hc
      rw [List.mem_singleton.1 hc, dig_toNat u h1]; omega
    · rename_i h1
      intro c hc
      rcases List.mem_append.1 hc with hc | hc
      · exact ih (u / 10) (by omega) c hc
      · rw [List.mem_singleton.1 hc, dig_toNat (u % 10) (by omega)]; omega
theorem dec_ne (u : Nat) : Lib.decDigits u ≠ [] := by
  rw [Lib.decDigits]; split <;> simp
theorem itoa_num (n : Int) : ∀ c ∈ Lib.itoa n, isNum c = true := by
  intro c hc
  unfold Lib.itoa at hc
  unfold isNum
  split at hc
  · rcases List.mem_cons.1 hc with rfl | hc
    · rfl
    · have := dec_digits _ c hc; simp [this]
  · have := dec_digits _ c hc; simp [this]
theorem itoa_ne (n : Int) : Lib.itoa n ≠ [] := by
  unfold Lib.itoa; split
  · simp
  · exact dec_ne _
theorem atoi_itoa (n : Int) (h1 : -9007199254740992 ≤ n) (h2 : n ≤ 9007199254740992) : Lib.atoiAll (Lib.itoa n) = .ok n := by
  unfold Lib.itoa
  split
  · rename_i h
    have e : Lib.parseMag (Lib.decDigits n.natAbs) = .ok n.natAbs := by
      rw [Lib.parseMag, if_neg (dec_ne _), parseUint_dec _ (by omega)]
    have e45 : (45 : UInt8).toNat = 45 := rfl
    simp only [Lib.atoiAll, e45, or_true, if_true, e]
    rw [if_neg (by omega), if_neg (by omega)]
    congr 1; omega
  · rename_i h
    have e : Lib.parseMag (Lib.decDigits n.toNat) = .ok n.toNat := by
      rw [Lib.parseMag, if_neg (dec_ne _), parseUint_dec _ (by omega)]
    cases hd : Lib.decDigits n.toNat with
    | nil => exact absurd hd (dec_ne _)
    | cons c r =>
      have hc := dec_digits n.toNat c (by rw [hd]; simp)
      have hn : ¬ (c.toNat = 43 ∨ c.toNat = 45) := by omega
      have hn2 : ¬ c.toNat = 45 := by omega
      rw [hd] at e
      simp only [Lib.atoiAll, if_neg hn, e]
      rw [if_neg (by omega), if_neg (by omega), if_neg hn2]
      congr 1; omega
theorem take_all {p : UInt8 → Bool} {l r : List UInt8} (h : ∀ c ∈ l, p c = true) (hr : p (hd0 r) = false ∨ r = []) : (l ++ r).takeWhile p = l ∧ (l ++ r).dropWhile p = r := by
  induction l with
  | nil =>
    cases r with
    | nil => exact ⟨rfl, rfl⟩
    | cons c r =>
      rcases hr with hr | hr
      · have : p c = false := hr
        simp [this]
      · cases hr
  | cons c l ih =>
    obtain ⟨e1, e2⟩ := ih fun x hx => h x (by simp [hx])
    rw [List.cons_append, List.takeWhile_cons, List.dropWhile_cons, if_pos (h c (by simp)), if_pos (h c (by simp)), e1, e2]
    exact ⟨rfl, rfl⟩
theorem numS_itoa (n : Int) (h1 : -9007199254740992 ≤ n) (h2 : n ≤ 9007199254740992) (r : List UInt8) (hr : isNum (hd0 r) = false) : numS (Lib.itoa n ++ r) = some (n, r) := by
  unfold numS
  obtain ⟨e1, e2⟩ := take_all (itoa_num n) (.inl hr)
  rw [e1, e2, atoi_itoa n h1 h2]
  simp

/- Texts. -/
theorem digsS_app (x : List UInt8) (k : Nat) : ∀ (n : Nat) (l : List UInt8) (p : Nat × List UInt8), digsS k n l = some p → digsS k n (l ++ x) = some (p.1, p.2 ++ x) := by
  induction k with
  | zero => intro n l p h; simp only [digsS, Option.some.injEq] at h ⊢; subst h; rfl
  | succ k ih =>
    intro n l p h
    simp only [digsS, Option.bind_eq_some_iff] at h ⊢
    obtain ⟨q, h1, h2⟩ := h
    refine ⟨(q.1, q.2 ++ x), ?_, ih _ _ _ h2⟩
    cases l with
    | nil => cases h1
    | cons c l =>
      simp only [digS, Option.map_eq_some_iff, List.cons_append] at h1 ⊢
      obtain ⟨d, h3, rfl⟩ := h1
      exact ⟨d, h3, rfl⟩
theorem codedS_app (x : List UInt8) {l : List UInt8} {p : UInt8 × List UInt8} (h : codedS l = some p) : codedS (l ++ x) = some (p.1, p.2 ++ x) := by
  simp only [codedS, Option.bind_eq_some_iff] at h ⊢
  obtain ⟨q, h1, h2⟩ := h
  refine ⟨_, digsS_app x _ _ _ _ h1, ?_⟩
  split at h2
  · rename_i hc; cases h2; simp only [if_pos hc]
  · cases h2
theorem byteS_esc (c : UInt8) (hc : c.toNat < 128) : (byteS c = [c] ∧ c ≠ 34 ∧ c ≠ 92 ∧ ¬ (c.toNat < 32 ∨ 127 ≤ c.toNat)) ∨ ∃ d r, byteS c = 92 :: d :: r ∧ ∀ x, escS (d :: r ++ x) = some (c, x) := by
  have H : ∀ k : Fin 128, (byteS (UInt8.ofNat k.val) = [UInt8.ofNat k.val] ∧ (UInt8.ofNat k.val) ≠ 34 ∧ UInt8.ofNat k.val ≠ 92 ∧ ¬ ((UInt8.ofNat k.val).toNat < 32 ∨ 127 ≤ (UInt8.ofNat k.val).toNat)) ∨
      (byteS (UInt8.ofNat k.val)).head? = some 92 ∧ (byteS (UInt8.ofNat k.val)).length = 2 ∧ (byteS (UInt8.ofNat k.val))[1]? ≠ some 117 ∧ (byteS (UInt8.ofNat k.val))[1]? ≠ some 47 ∧ ((byteS (UInt8.ofNat k.val))[1]?.bind escB) = some (UInt8.ofNat k.val) ∨
      (byteS (UInt8.ofNat k.val)).head? = some 92 ∧ (byteS (UInt8.ofNat k.val))[1]? = some 117 ∧ (byteS (UInt8.ofNat k.val)).length = 6 ∧ codedS ((byteS (UInt8.ofNat k.val)).drop 2) = some (UInt8.ofNat k.val, []) := by decide +kernel
  have e : UInt8.ofNat c.toNat = c := UInt8.ofNat_toNat
  have h := H ⟨c.toNat, hc⟩
  simp only [e] at h
  rcases h with h | ⟨h0, hl, h1, h2, h3⟩ | ⟨h0, h1, hl, h3⟩
  · exact .inl h
  · right
    match hb : byteS c, h0, hl, h1, h2, h3 with
    | [a, d], h0, _, h1, h2, h3 =>
      simp only [List.head?_cons, Option.some.injEq] at h0
      subst h0
      simp only [List.getElem?_cons_succ, List.getElem?_cons_zero, ne_eq, Option.some.injEq, Option.bind_some] at h1 h2 h3
      refine ⟨d, [], rfl, fun x => ?_⟩
      simp only [List.cons_append, List.nil_append, escS, if_neg h1, if_neg h2, h3, Option.map_some]
  · right
    match hb : byteS c, h0, hl, h1, h3 with
    | [a, d, q1, q2, q3, q4], h0, _, h1, h3 =>
      simp only [List.head?_cons, Option.some.injEq] at h0
      subst h0
      simp only [List.getElem?_cons_succ, List.getElem?_cons_zero, Option.some.injEq] at h1
      subst h1
      refine ⟨117, [q1, q2, q3, q4], rfl, fun x => ?_⟩
      simp only [List.drop_succ_cons, List.drop_zero] at h3
      simp only [List.cons_append, List.nil_append, escS, if_true]
      exact codedS_app x h3
theorem bodyS_flat (s : List UInt8) : (∀ c ∈ s, c.toNat < 128) → ∀ (acc r : List UInt8) (n : Nat), s.length < n → bodyS n acc (s.flatMap byteS ++ 34 :: r) = some (acc ++ s, r) := by
  induction s with
  | nil =>
    intro _ acc r n hn
    cases n with
    | zero => simp at hn
    | succ n => simp [bodyS]
  | cons c s ih =>
    intro h acc r n hn
    cases n with
    | zero => simp at hn
    | succ n =>
      have hih := ih (fun x hx => h x (by simp [hx])) (acc ++ [c]) r n (by simp at hn; omega)
      rw [List.flatMap_cons, List.append_assoc]
      rcases byteS_esc c (h c (by simp)) with ⟨e, h1, h2, h3⟩ | ⟨d, q, e, hx⟩
      · rw [e, List.cons_append, List.nil_append, bodyS, if_neg h1, if_neg h2, if_neg h3, hih]
        simp
      · rw [e, List.cons_append, bodyS, if_neg (by decide), if_pos rfl, hx, Option.bind_some]
        simp only [hih, List.append_assoc, List.cons_append, List.nil_append]
theorem markS_cons (c : UInt8) (h : isSp c = false) (l : List UInt8) : markS c (c :: l) = some l := by
  unfold markS
  rw [List.dropWhile_cons, if_neg (by simp [h])]; simp
theorem markS_other (c d : UInt8) (h : isSp d = false) (hcd : d ≠ c) (l : List UInt8) : markS c (d :: l) = none := by
  unfold markS
  rw [List.dropWhile_cons, if_neg (by simp [h])]; simp [hcd]
theorem flat_lenU (s : List UInt8) : s.length ≤ (s.flatMap byteS).length := by
  induction s with
  | nil => simp
  | cons c s ih =>
    have : 1 ≤ (byteS c).length := by unfold byteS; repeat' split
                                      all_goals simp
    simp only [List.flatMap_cons, List.length_append, List.length_cons]; omega
theorem quotS_quote (s : List UInt8) (h : plainB s = true) (r : List UInt8) : quotS (quoteS s ++ r) = some (s, r) := by
  have h2 : ∀ c ∈ s, c.toNat < 128 := by
    unfold plainB at h
    simp only [Bool.and_eq_true, List.all_eq_true, decide_eq_true_eq] at h
    exact h.2
  unfold quotS quoteS
  rw [List.cons_append, List.cons_append, markS_cons 34 (by decide), Option.bind_some, List.append_assoc, List.cons_append, List.nil_append,
    bodyS_flat s h2 [] r _ (by have := flat_lenU s; simp only [List.length_append, List.length_cons]; omega), List.nil_append]

/- Keys. -/
theorem memV_new {ks : List (List UInt8)} {l : List V} {k : List UInt8} (h : ∀ a ∈ ks, Op.bytesLess a k = true) : memV ⟨5, 0, [], ks, l⟩ k = none := by
  have e : idxL k ks = none := idxL_none fun a ha => less_ne (h a ha)
  simp only [memV, findV]
  split
  · simp [e]
  · rfl
theorem withV_new {ks : List (List UInt8)} {l : List V} {k : List UInt8} {x : V} (hl : ks.length = l.length) (h : ∀ a ∈ ks, Op.bytesLess a k = true) : withV ⟨5, 0, [], ks, l⟩ k x = ⟨5, 0, [], ks ++ [k], l ++ [x]⟩ := by
  have e : idxL k ks = none := idxL_none fun a ha => less_ne (h a ha)
  have e2 : insV k ks = ks.length := by
    unfold insV
    have : ks.takeWhile (fun a => Op.bytesLess a k) = ks := by
      induction ks generalizing l with
      | nil => rfl
      | cons a ks ih =>
        rw [List.takeWhile_cons, if_pos (h a (by simp))]
        congr 1
        exact ih (l := l.tail) (by simp at hl; simp; omega) (fun y hy => h y (by simp [hy])) (idxL_none fun y hy => less_ne (h y (by simp [hy])))
    rw [this]
  unfold withV
  rw [if_pos (by simp [pairedV, hl])]
  simp only [e]
  rw [e2, List.take_length, List.drop_length, hl, List.take_length, List.drop_length]

/- What a good value's text begins with. -/
theorem print_head (D : Nat) (t : V) (h : GoodT D t) : ∃ c r, printS D t = c :: r ∧ isSp c = false ∧ c ≠ 93 := by
  cases D with
  | zero => exact h.elim
  | succ D =>
    simp only [printS]
    split
    · exact ⟨_, _, rfl, by decide, by decide⟩
    split
    · unfold boolS; split
      · exact ⟨_, _, rfl, by decide, by decide⟩
      · exact ⟨_, _, rfl, by decide, by decide⟩
    split
    · cases hn : Lib.itoa t.n with
      | nil => exact absurd hn (itoa_ne _)
      | cons c r =>
        have := itoa_num t.n c (by rw [hn]; simp)
        refine ⟨c, r, rfl, ?_, ?_⟩
        · cases hs : isSp c with
          | false => rfl
          | true => rw [isNum_gap hs] at this; cases this
        · rintro rfl; revert this; decide
    split
    · exact ⟨_, _, rfl, by decide, by decide⟩
    split
    · exact ⟨_, _, rfl, by decide, by decide⟩
    · exact ⟨_, _, rfl, by decide, by decide⟩
theorem commaS_cons (x : List UInt8) (xs : List (List UInt8)) : commaS (x :: xs) = x ++ xs.flatMap (fun y => 44 :: y) := by
  induction xs generalizing x with
  | nil => simp [commaS]
  | cons y ys ih => rw [commaS, ih, List.flatMap_cons]; simp

/- What is read of a text of a good value. -/
def Back (D : Nat) (g : Rd) : Prop := ∀ t, GoodT D t → ∀ r, isNum (hd0 r) = false → g (printS D t ++ r) = some (t, r)
theorem itemsS_back {D : Nat} {g : Rd} (hg : Back D g) (xs : List V) : (∀ x ∈ xs, GoodT D x) → ∀ (acc : List V) (r : List UInt8) (k : Nat), xs.length < k →
    itemsS g k acc (xs.flatMap (fun y => 44 :: printS D y) ++ 93 :: r) = some (⟨4, 0, [], [], acc ++ xs⟩, r) := by
  induction xs with
  | nil =>
    intro _ acc r k hk
    cases k with
    | zero => simp at hk
    | succ k =>
      rw [List.flatMap_nil, List.nil_append, itemsS, markS_other _ _ (by decide) (by decide)]
      simp only [markS_drop, markS_cons 93 (by decide), Option.map_some, List.append_nil]
  | cons x xs ih =>
    intro h acc r k hk
    cases k with
    | zero => simp at hk
    | succ k =>
      rw [List.flatMap_cons, List.cons_append, List.cons_append, itemsS, markS_cons _ (by decide)]
      simp only [List.append_assoc]
      rw [hg x (h x (by simp)) _ (by cases xs <;> rfl), Option.bind_some]
      simp only
      rw [ih (fun y hy => h y (by simp [hy])) _ _ _ (by simp at hk; omega)]
      simp
theorem listS_back {D : Nat} {g : Rd} (hg : Back D g) (hd : Dr g) (xs : List V) (h : ∀ x ∈ xs, GoodT D x) (r : List UInt8) : listS g (91 :: commaS (xs.map (printS D)) ++ [93] ++ r) = some (⟨4, 0, [], [], xs⟩, r) := by
  unfold listS
  rw [List.cons_append, List.cons_append, markS_cons _ (by decide), Option.bind_some]
  cases xs with
  | nil =>
    simp only [List.map_nil, commaS, List.nil_append, List.cons_append, markS_cons 93 (by decide)]
  | cons x xs =>
    rw [List.map_cons, commaS_cons]
    obtain ⟨c, q, e, h1, h2⟩ := print_head D x (h x (by simp))
    have hn : markS 93 (printS D x ++ (xs.map (printS D)).flatMap (fun y => 44 :: y) ++ [93] ++ r) = none := by
      rw [e]; exact markS_other _ _ h1 h2 _
    simp only [hn, hd _]
    have e2 : (xs.map (printS D)).flatMap (fun y => 44 :: y) = xs.flatMap (fun y => 44 :: printS D y) := by rw [List.flatMap_map]
    rw [e2]
    simp only [List.append_assoc, List.cons_append, List.nil_append]
    rw [hg x (h x (by simp)) _ (by cases xs <;> rfl), Option.bind_some]
    simp only
    rw [itemsS_back hg xs (fun y hy => h y (by simp [hy])) [x] r _ (by
      have : ∀ (m : List V), m.length ≤ (m.flatMap (fun y => 44 :: printS D y)).length := by
        intro m
        induction m with
        | nil => simp
        | cons y m ihm => simp only [List.flatMap_cons, List.length_append, List.length_cons]; omega
      have := this xs
      simp only [List.length_append, List.length_cons]; omega)]
    rfl
def pairT (D : Nat) (p : List UInt8 × V) : List UInt8 := quoteS p.1 ++ 58 :: printS D p.2
theorem memS_back {D : Nat} {g : Rd} (hg : Back D g) (ks : List (List UInt8)) (l : List V) (hl : ks.length = l.length) (k : List UInt8) (x : V) (hk : plainB k = true) (hx : GoodT D x) (ha : ∀ a ∈ ks, Op.bytesLess a k = true) (r : List UInt8) (hr : isNum (hd0 r) = false) :
    memS g ⟨5, 0, [], ks, l⟩ (pairT D (k, x) ++ r) = some (⟨5, 0, [], ks ++ [k], l ++ [x]⟩, r) := by
  unfold memS pairT
  simp only [List.append_assoc, List.cons_append]
  rw [quotS_quote k hk, Option.bind_some]
  simp only
  rw [markS_cons _ (by decide), Option.bind_some, hg x hx r hr, Option.bind_some]
  simp only [memV_new ha, Option.isSome_none, Bool.false_eq_true, if_false, withV_new hl ha]
theorem membsS_back {D : Nat} {g : Rd} (hg : Back D g) (ps : List (List UInt8 × V)) : (∀ p ∈ ps, plainB p.1 = true ∧ GoodT D p.2) → ∀ (ks : List (List UInt8)) (l : List V), ks.length = l.length → Rises (ks ++ ps.map (·.1)) → ∀ (r : List UInt8) (n : Nat), ps.length < n →
    membsS g n ⟨5, 0, [], ks, l⟩ (ps.flatMap (fun p => 44 :: pairT D p) ++ 125 :: r) = some (⟨5, 0, [], ks ++ ps.map (·.1), l ++ ps.map (·.2)⟩, r) := by
  induction ps with
  | nil =>
    intro _ ks l _ _ r k hk
    cases k with
    | zero => simp at hk
    | succ k =>
      rw [List.flatMap_nil, List.nil_append, membsS, markS_other _ _ (by decide) (by decide)]
      simp only [markS_drop, markS_cons 125 (by decide), Option.map_some, List.map_nil, List.append_nil]
  | cons p ps ih =>
    intro h ks l hl hr r k hk
    cases k with
    | zero => simp at hk
    | succ k =>
      rw [List.flatMap_cons, List.cons_append, List.cons_append, membsS, markS_cons _ (by decide)]
      simp only [List.append_assoc]
      have ha : ∀ a ∈ ks, Op.bytesLess a p.1 = true := fun a ha => (List.pairwise_append.1 hr).2.2 a ha p.1 (by simp)
      rw [memS_back hg ks l hl p.1 p.2 (h p (by simp)).1 (h p (by simp)).2 ha _ (by cases ps <;> rfl), Option.bind_some]
      simp only
      rw [ih (fun y hy => h y (by simp [hy])) _ _ (by simp [hl]) (by simpa using hr) _ _ (by simp at hk; omega)]
      simp
theorem objS_back {D : Nat} {g : Rd} (hg : Back D g) (ps : List (List UInt8 × V)) (h : ∀ p ∈ ps, plainB p.1 = true ∧ GoodT D p.2) (hr : Rises (ps.map (·.1))) (r : List UInt8) : objS g (123 :: commaS (ps.map (pairT D)) ++ [125] ++ r) = some (⟨5, 0, [], ps.map (·.1), ps.map (·.2)⟩, r) := by
  unfold objS
  rw [List.cons_append, List.cons_append, markS_cons _ (by decide), Option.bind_some]
  cases ps with
  | nil =>
    simp only [List.map_nil, commaS, List.nil_append, List.cons_append, markS_cons 125 (by decide)]
  | cons x xs =>
    rw [List.map_cons, commaS_cons]
    have hn : markS 125 (pairT D x ++ (xs.map (pairT D)).flatMap (fun y => 44 :: y) ++ [125] ++ r) = none := by
      unfold pairT quoteS; exact markS_other _ _ (by decide) (by decide) _
    simp only [hn, memS_drop g _ _]
    have e2 : (xs.map (pairT D)).flatMap (fun y => 44 :: y) = xs.flatMap (fun y => 44 :: pairT D y) := by rw [List.flatMap_map]
    rw [e2]
    simp only [List.append_assoc, List.cons_append, List.nil_append]
    rw [memS_back hg [] [] rfl x.1 x.2 (h x (by simp)).1 (h x (by simp)).2 (fun a ha => by cases ha) _ (by cases xs <;> rfl), Option.bind_some]
    simp only [List.nil_append]
    rw [membsS_back hg xs (fun y hy => h y (by simp [hy])) [x.1] [x.2] rfl (by simpa using hr) r _ (by
      have : ∀ (m : List (List UInt8 × V)), m.length ≤ (m.flatMap (fun y => 44 :: pairT D y)).length := by
        intro m
        induction m with
        | nil => simp
        | cons y m ihm => simp only [List.flatMap_cons, List.length_append, List.length_cons]; omega
      have := this xs
      simp only [List.length_append, List.length_cons]; omega)]
    rfl
theorem pairS_zip (D : Nat) : ∀ (ks : List (List UInt8)) (l : List V), pairS (printS D) ks l = (ks.zip l).map (pairT D)
  | [], l => by simp [pairS]
  | k :: ks, [] => by simp [pairS]
  | k :: ks, x :: l => by
    have := pairS_zip D ks l
    unfold pairS at this ⊢
    rw [List.zipWith_cons_cons, this]; rfl
theorem wordS_self (wd r : List UInt8) : wordS wd (wd ++ r) = some r := by
  unfold wordS
  rw [if_pos (List.isPrefixOf_iff_prefix.2 ⟨r, rfl⟩)]; simp
theorem V_ext {t : V} {k n : Int} {s : List UInt8} {ks : List (List UInt8)} {l : List V} (h1 : t.kind = k) (h2 : t.n = n) (h3 : t.s = s) (h4 : t.keys = ks) (h5 : t.l = l) : t = ⟨k, n, s, ks, l⟩ := by
  cases t; simp only at h1 h2 h3 h4 h5; subst h1 h2 h3 h4 h5; rfl
theorem back_all (D : Nat) : ∀ F, D ≤ F → Back D (valS F) := by
  induction D with
  | zero => intro F _ t h; exact h.elim
  | succ D ih =>
    intro F hF t h r hr
    cases F with
    | zero => omega
    | succ F =>
      have hB := ih F (by omega)
      obtain ⟨c, q, e, hs1, hs2⟩ := print_head (D + 1) t h
      have hdr : (printS (D + 1) t ++ r).dropWhile isSp = printS (D + 1) t ++ r := by
        rw [e, List.cons_append, List.dropWhile_cons, if_neg (by simp [hs1])]
      simp only [valS]
      rw [hdr]
      clear e hs1 hs2 hdr
      obtain ⟨hsh, hch⟩ := h
      have nil2 : ∀ {t : V}, listlessB t = true → t.keys = [] ∧ t.l = [] := by
        intro t h
        unfold listlessB at h
        simp only [Bool.and_eq_true, decide_eq_true_eq] at h
        exact ⟨List.length_eq_zero_iff.1 h.1, List.length_eq_zero_iff.1 h.2⟩
      simp only [shapedB] at hsh
      simp only [printS]
      split at hsh
      · rename_i hk
        simp only [Bool.and_eq_true, decide_eq_true_eq] at hsh
        obtain ⟨⟨a1, a2⟩, a3⟩ := hsh
        rw [if_pos hk]
        have e0 : hd0 ([110, 117, 108, 108] ++ r) = 110 := rfl
        unfold oneS
        rw [e0, if_pos rfl, wordS_self, V_ext hk a1 a2 (nil2 a3).1 (nil2 a3).2]; rfl
      rename_i hk0
      rw [if_neg hk0]
      split at hsh
      · rename_i hk
        simp only [Bool.and_eq_true, Bool.or_eq_true, decide_eq_true_eq] at hsh
        obtain ⟨⟨a1, a2⟩, a3⟩ := hsh
        rw [if_pos hk]
        have e0 : hd0 ([102, 97, 108, 115, 101] ++ r) = 102 := rfl
        have e1 : hd0 ([116, 114, 117, 101] ++ r) = 116 := rfl
        have b0 : boolS ((0 : Int) == 1) = [102, 97, 108, 115, 101] := rfl
        have b1 : boolS ((1 : Int) == 1) = [116, 114, 117, 101] := rfl
        unfold oneS
        rcases a1 with a1 | a1
        · rw [a1, b0, e0, if_neg (by decide), if_pos rfl, wordS_self, V_ext hk a1 a2 (nil2 a3).1 (nil2 a3).2]; rfl
        · rw [a1, b1, e1, if_neg (by decide), if_neg (by decide), if_pos rfl, wordS_self, V_ext hk a1 a2 (nil2 a3).1 (nil2 a3).2]; rfl
      rename_i hk1
      rw [if_neg hk1]
      split at hsh
      · rename_i hk
        simp only [Bool.and_eq_true, decide_eq_true_eq] at hsh
        obtain ⟨⟨⟨a0, a1⟩, a2⟩, a3⟩ := hsh
        rw [if_pos hk]
        have hh : isNum (hd0 (Lib.itoa t.n ++ r)) = true := by
          cases hn : Lib.itoa t.n with
          | nil => exact absurd hn (itoa_ne _)
          | cons c q => exact itoa_num t.n c (by rw [hn]; simp)
        have hne : ∀ c, isNum c = false → hd0 (Lib.itoa t.n ++ r) ≠ c := by
          intro c hc e; rw [e, hc] at hh; cases hh
        unfold oneS
        rw [if_neg (hne _ (by decide)), if_neg (hne _ (by decide)), if_neg (hne _ (by decide)), if_neg (hne _ (by decide)), if_neg (hne _ (by decide)), if_neg (hne _ (by decide)), numS_itoa _ a0 a1 r hr]
        simp only [Option.map_some, leafV]
        rw [← V_ext hk rfl a2 (nil2 a3).1 (nil2 a3).2]
      rename_i hk2
      rw [if_neg hk2]
      split at hsh
      · rename_i hk
        simp only [Bool.and_eq_true, decide_eq_true_eq] at hsh
        obtain ⟨⟨a1, a2⟩, a3⟩ := hsh
        rw [if_pos hk]
        have e34 : hd0 (quoteS t.s ++ r) = 34 := rfl
        unfold oneS
        rw [e34, if_neg (by decide), if_neg (by decide), if_neg (by decide), if_pos rfl, quotS_quote _ a2]
        simp only [Option.map_some, leafV]
        rw [← V_ext hk a1 rfl (nil2 a3).1 (nil2 a3).2]
      rename_i hk3
      rw [if_neg hk3]
      split at hsh
      · rename_i hk
        simp only [Bool.and_eq_true, decide_eq_true_eq] at hsh
        obtain ⟨⟨a1, a2⟩, a3⟩ := hsh
        rw [if_pos hk]
        have e91 : hd0 (91 :: commaS (t.l.map (printS D)) ++ [93] ++ r) = 91 := rfl
        unfold oneS
        rw [e91, if_neg (by decide), if_neg (by decide), if_neg (by decide), if_neg (by decide), if_pos rfl, listS_back hB (valS_drop F) t.l hch r]
        rw [← V_ext hk a1 a2 (List.length_eq_zero_iff.1 a3) rfl]
      rename_i hk4
      rw [if_neg hk4]
      split at hsh
      · rename_i hk
        simp only [Bool.and_eq_true, decide_eq_true_eq] at hsh
        obtain ⟨⟨⟨a1, a2⟩, a3⟩, a4⟩ := hsh
        obtain ⟨-, g2, g3⟩ := rise_pair _ _ a4
        have e123 : hd0 (123 :: commaS (pairS (printS D) t.keys t.l) ++ [125] ++ r) = 123 := rfl
        unfold oneS
        rw [e123, if_neg (by decide), if_neg (by decide), if_neg (by decide), if_neg (by decide), if_neg (by decide), if_pos rfl, pairS_zip]
        have z1 : (t.keys.zip t.l).map (·.1) = t.keys := by
          have := List.map_fst_zip (l₁ := t.keys) (l₂ := t.l) (by omega); simpa using this
        have z2 : (t.keys.zip t.l).map (·.2) = t.l := by
          have := List.map_snd_zip (l₁ := t.keys) (l₂ := t.l) (by omega); simpa using this
        rw [objS_back hB _ (fun p hp => ⟨g3 _ (List.of_mem_zip hp).1, hch _ (List.of_mem_zip hp).2⟩) (by rw [z1]; exact g2) r, z1, z2]
        rw [← V_ext hk a1 a2 rfl rfl]
      · cases hsh
theorem parse_print {t : V} (h : goodV t = true) (d : Nat) (hd : Dep d t) (hl : (printS d t).length ≤ 2000) : parseS (printS d t) = (t, 0) := by
  have hT := goodV_tree h
  rw [printS_fuel d 12 t hd hT.dep] at hl ⊢
  have hb : valS ((printS 12 t).length + 1) (printS 12 t) = some (t, []) := by
    have h1 := back_all 12 ((printS 12 t).length + 1 + 12) (by omega) t hT [] (by decide)
    rw [List.append_nil] at h1
    rw [← h1]
    exact valS_fuel _ _ _ (by omega) (by omega)
  unfold parseS parseV
  rw [if_neg (by omega), hb]
  simp [h]
theorem parseS_good {l : List UInt8} {t : V} (h : parseS l = (t, 0)) : goodV t = true := by
  unfold parseS at h
  split at h
  · simp at h
  · split at h
    · rename_i t' ht
      cases h
      unfold parseV at ht
      simp only [Option.bind_eq_some_iff] at ht
      obtain ⟨p, -, h2⟩ := ht
      split at h2
      · rename_i hc; cases h2; exact hc.2
      · cases h2
    · simp at h
theorem parseS_cases (l : List UInt8) : (∃ t, parseS l = (t, 0)) ∨ ∃ e, (e = 1 ∨ e = 2) ∧ parseS l = (leafV 0 0 [], e) := by
  unfold parseS
  split
  · exact .inr ⟨2, .inr rfl, rfl⟩
  · split
    · exact .inl ⟨_, rfl⟩
    · exact .inr ⟨1, .inl rfl, rfl⟩
end Go.Proofs.YtkboplcffailoaaGreatDoor

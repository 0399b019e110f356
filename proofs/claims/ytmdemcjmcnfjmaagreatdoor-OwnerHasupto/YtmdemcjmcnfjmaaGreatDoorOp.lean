/- Owners, plainly: paths that are good, texts in order, leaves, what Apply answers. -/
import Derived.Test.YtmdemcjmcnfjmaaGreatDoorPw
set_option linter.unusedSimpArgs false
set_option linter.unusedVariables false
namespace Go.Proofs.YtmdemcjmcnfjmaaGreatDoor
open Go.RowKit
open Go.Lib (index count replaceK replaceAll split splitK)

/- A name: small letters, one to twelve. -/
def lowB (c : UInt8) : Bool := decide (97 ≤ c.toNat) && decide (c.toNat ≤ 122)
def namedB (s : List UInt8) : Bool := !s.isEmpty && decide (s.length ≤ 12) && s.all lowB
def namesP (p : List UInt8) : List (List UInt8) := (splitP p).1
def gpB (p : List UInt8) : Bool := decide ((splitP p).2 = 0) && !(namesP p).isEmpty
theorem split_len {p : List UInt8} {b : List (List UInt8)} (h : splitP p = (b, 0)) : p.length ≤ 2000 ∧ joinP b = p := by
  refine ⟨?_, join_split p b h⟩
  cases p with
  | nil => simp
  | cons c r =>
    simp only [splitP] at h
    split at h
    · simp at h
    · rename_i h9
      simp only [not_or] at h9
      omega
theorem marked_len (s : List UInt8) : s.length ≤ (markedL s).length ∧ (markedL s).length ≤ 2 * s.length := by
  rw [marked_eq]
  refine ⟨?_, esc_len s⟩
  induction s with
  | nil => simp
  | cons c r ih2 =>
    simp only [List.flatMap_cons, List.length_append, List.length_cons]
    have : 1 ≤ (escP c).length := by unfold escP; split <;> (try split) <;> simp
    omega
theorem join_mem_len {b : List (List UInt8)} {x : List UInt8} (h : x ∈ b) : x.length ≤ (joinP b).length := by
  induction b with
  | nil => cases h
  | cons y ys ih =>
    rw [join_cons]
    simp only [List.length_cons, List.length_append]
    rcases List.mem_cons.1 h with rfl | h
    · have := (marked_len x).1; omega
    · have := ih h; omega
theorem gp_names {p : List UInt8} (h : gpB p = true) : splitP p = (namesP p, 0) ∧ namesP p ≠ [] ∧ joinP (namesP p) = p := by
  unfold gpB at h
  rw [Bool.and_eq_true, decide_eq_true_eq] at h
  have e : splitP p = (namesP p, 0) := by unfold namesP; rw [← h.1]
  refine ⟨e, fun h9 => by rw [h9] at h; simp at h, (split_len e).2⟩
theorem gp_of {ns : List (List UInt8)} (h : (joinP ns).length ≤ 2000) (hne : ns ≠ []) : gpB (joinP ns) = true ∧ namesP (joinP ns) = ns := by
  have e := split_join ns h
  have e2 : namesP (joinP ns) = ns := by unfold namesP; rw [e]
  refine ⟨?_, e2⟩
  unfold gpB
  rw [e2, e]
  cases ns with
  | nil => exact absurd rfl hne
  | cons a r => rfl

/- Texts that rise. -/
def risesB : List (List UInt8) → Bool
  | [] => true
  | [_] => true
  | a :: b :: r => Op.bytesLess a b && risesB (b :: r)
theorem rises_iff : ∀ (l : List (List UInt8)), risesB l = true ↔ Rises l
  | [] => by simp [risesB, Rises]
  | [a] => by simp [risesB, Rises]
  | a :: b :: r => by
    rw [risesB, Bool.and_eq_true, rises_iff (b :: r)]
    unfold Rises
    rw [List.pairwise_cons (a := a)]
    constructor
    · rintro ⟨h1, h2⟩
      refine ⟨fun x hx => ?_, h2⟩
      rcases List.mem_cons.1 hx with rfl | hx
      · exact h1
      · exact less_trans _ _ _ h1 ((List.pairwise_cons.1 h2).1 x hx)
    · rintro ⟨h1, h2⟩
      exact ⟨h1 b (by simp), h2⟩
theorem rises_at : ∀ (l : List (List UInt8)), risesB l = true ↔ ∀ i x y, l[i]? = some x → l[i + 1]? = some y → Op.bytesLess x y = true
  | [] => by simp [risesB]
  | [a] => by
    simp only [risesB, true_iff]
    intro i x y h1 h2
    simp at h2
  | a :: b :: r => by
    rw [risesB, Bool.and_eq_true, rises_at (b :: r)]
    constructor
    · rintro ⟨h1, h2⟩ i x y hx hy
      cases i with
      | zero => simp at hx hy; subst hx; subst hy; exact h1
      | succ i => exact h2 i x y (by simpa using hx) (by simpa using hy)
    · intro h
      exact ⟨h 0 a b rfl rfl, fun i x y hx hy => h (i + 1) x y (by simpa using hx) (by simpa using hy)⟩
def gpsB (l : List (List UInt8)) : Bool := !l.isEmpty && l.all gpB && risesB l

/- Owners. -/
structure Own where
  name : List UInt8
  paths : List (List UInt8)
def ownB (o : Own) : Bool := namedB o.name && gpsB o.paths
def goodOs (l : List Own) : Bool := decide (l.length ≤ 6) && l.all ownB && risesB (l.map Own.name)

/- Sorting texts. -/
def insL (x : List UInt8) : List (List UInt8) → List (List UInt8)
  | [] => [x]
  | y :: ys => if Op.bytesLess y x then y :: insL x ys else x :: y :: ys
def sortL (l : List (List UInt8)) : List (List UInt8) := l.foldr insL []
def LeB (a b : List UInt8) : Prop := Op.bytesLess b a = false
theorem le_anti {a b : List UInt8} (h1 : LeB a b) (h2 : LeB b a) : a = b := by
  apply Classical.byContradiction
  intro h
  have := less_total a b h2 h
  rw [h1] at this; cases this
theorem le_of_less {a b : List UInt8} (h : Op.bytesLess a b = true) : LeB a b := by
  unfold LeB
  cases e : Op.bytesLess b a with
  | false => rfl
  | true => have := less_trans _ _ _ h e; rw [less_irrefl] at this; cases this
theorem less_of_le {a b : List UInt8} (h : LeB a b) (hne : a ≠ b) : Op.bytesLess a b = true := less_total b a h fun e => hne e.symm
theorem le_trans' {a b c : List UInt8} (h1 : LeB a b) (h2 : LeB b c) : LeB a c := by
  by_cases e : a = b
  · rw [e]; exact h2
  by_cases e2 : b = c
  · rw [← e2]; exact h1
  exact le_of_less (less_trans _ _ _ (less_of_le h1 e) (less_of_le h2 e2))
theorem ins_perm (x : List UInt8) : ∀ (l : List (List UInt8)), (insL x l).Perm (x :: l)
  | [] => List.Perm.refl _
  | y :: ys => by
    unfold insL
    split
    · exact ((ins_perm x ys).cons y).trans (List.Perm.swap x y ys)
    · exact List.Perm.refl _
theorem sort_perm : ∀ (l : List (List UInt8)), (sortL l).Perm l
  | [] => List.Perm.refl _
  | x :: l => (ins_perm x (sortL l)).trans ((sort_perm l).cons x)
theorem ins_sorted (x : List UInt8) : ∀ (l : List (List UInt8)), l.Pairwise LeB → (insL x l).Pairwise LeB
  | [], _ => by simp [insL]
  | y :: ys, h => by
    rw [List.pairwise_cons] at h
    unfold insL
    split
    · rename_i hl
      rw [List.pairwise_cons]
      refine ⟨fun z hz => ?_, ins_sorted x ys h.2⟩
      rcases List.mem_cons.1 ((ins_perm x ys).mem_iff.1 hz) with rfl | hz
      · exact le_of_less hl
      · exact h.1 z hz
    · rename_i hl
      have hxy : LeB x y := by unfold LeB; simpa using hl
      rw [List.pairwise_cons, List.pairwise_cons]
      refine ⟨fun z hz => ?_, h⟩
      rcases List.mem_cons.1 hz with rfl | hz
      · exact hxy
      · exact le_trans' hxy (h.1 z hz)
theorem sort_sorted : ∀ (l : List (List UInt8)), (sortL l).Pairwise LeB
  | [] => List.Pairwise.nil
  | x :: l => ins_sorted x _ (sort_sorted l)
theorem sort_of {l m : List (List UInt8)} (hp : m.Perm l) (hs : m.Pairwise LeB) : m = sortL l :=
  List.Perm.eq_of_pairwise (fun a b _ _ h1 h2 => le_anti h1 h2) hs (sort_sorted l) (hp.trans (sort_perm l).symm)

/- Leaves, as paths that rise. -/
def leavesF (t : V) : List (List UInt8) := if t.kind = 5 ∧ goodV t = true then sortL ((lvs 12 t).map joinP) else []
theorem keys_plain {t : V} (hs : shapedB t = true) (hk : t.kind = 5) : ∀ k ∈ t.keys, k.length ≤ 60 := by
  intro k h
  have := (rise_pair _ _ (shaped_object hs hk).2.1).2.2 k h
  simp only [plainB, Bool.and_eq_true, decide_eq_true_eq] at this
  exact this.1
theorem lvs_len : ∀ (D : Nat) (t : V) (ns : List (List UInt8)), GoodT D t → t.kind = 5 → ns ∈ lvs D t → (joinP ns).length ≤ 121 * D
  | 0, _, _, h, _, _ => h.elim
  | D + 1, t, ns, h, hk, hn => by
    have key : ∀ k x, (k, x) ∈ t.keys.zip t.l → k.length ≤ 60 := fun k x hp => keys_plain h.1 hk k (List.of_mem_zip hp).1
    obtain ⟨k, x, hp, ⟨hc, r, hr, rfl⟩ | ⟨hl, rfl⟩⟩ := lvs_in hn
    · have := lvs_len D x r (h.2 x (List.of_mem_zip hp).2) hc.1 hr
      have h1 := key k x hp
      have h2 := (marked_len k).2
      rw [join_cons]
      simp only [List.length_cons, List.length_append]
      omega
    · have h1 := key k x hp
      have h2 := (marked_len k).2
      rw [join_cons]
      simp only [List.length_cons, List.length_append, joinP, List.flatMap_nil, List.length_nil]
      omega
structure LeavesOk (t : V) (L : List (List UInt8)) : Prop where
  rises : Rises L
  good : ∀ p ∈ L, gpB p = true
  names : ∀ ns, ns ∈ L.map namesP ↔ ns ∈ lvs 12 t
  apart : (L.map namesP).Pairwise Apart
theorem lvs_gp {t : V} (hk : t.kind = 5) (hg : goodV t = true) {ns : List (List UInt8)} (h : ns ∈ lvs 12 t) : gpB (joinP ns) = true ∧ namesP (joinP ns) = ns :=
  gp_of (by have := lvs_len 12 t ns (goodV_tree hg) hk h; omega) (lvs_ne h)
theorem leaves_ok {t : V} (hk : t.kind = 5) (hg : goodV t = true) : LeavesOk t (leavesF t) := by
  have ho := (goodV_tree hg).ho
  have e : leavesF t = sortL ((lvs 12 t).map joinP) := if_pos ⟨hk, hg⟩
  have hp := sort_perm ((lvs 12 t).map joinP)
  have hmm : ((lvs 12 t).map joinP).map namesP = lvs 12 t := by
    rw [List.map_map]
    conv => rhs; rw [← List.map_id (lvs 12 t)]
    exact List.map_congr_left fun ns hns => (lvs_gp hk hg hns).2
  have hpn : ((leavesF t).map namesP).Perm (lvs 12 t) := by rw [e]; have := hp.map namesP; rwa [hmm] at this
  have hap := lvs_apart 12 t ho hk
  have hap2 : ((leavesF t).map namesP).Pairwise Apart := (hpn.pairwise_iff (fun h => h.symm)).2 hap
  refine ⟨?_, ?_, fun ns => hpn.mem_iff, hap2⟩
  · have h1 : (leavesF t).Pairwise LeB := by rw [e]; exact sort_sorted _
    have h2 : (leavesF t).Pairwise (· ≠ ·) := by
      rw [List.pairwise_map] at hap2
      exact hap2.imp fun h e => h.1 (by rw [e]; exact List.prefix_rfl)
    exact (h1.and h2).imp fun ⟨h3, h4⟩ => less_of_le h3 h4
  · intro p h
    rw [e] at h
    obtain ⟨ns, hn, rfl⟩ := List.mem_map.1 (hp.mem_iff.1 h)
    exact (lvs_gp hk hg hn).1

/- What Apply and its helpers answer. -/
open Classical in
noncomputable def otherF (want v : V) (p : List UInt8) : Bool :=
  match thr (namesP p) v with
  | none => true
  | some x => !decide (x = (thr (namesP p) want).getD zeroT) && !(decide (x.kind = 5) && decide (((thr (namesP p) want).getD zeroT).kind = 5))
noncomputable def blockedF (want v : V) (L : List (List UInt8)) (p : List UInt8) : Bool :=
  if L.contains p then otherF want v p else L.any fun q => aboveP q p || aboveP p q
def keptF (stays : List UInt8 → List UInt8 → Bool) (l : List Own) : List Own :=
  (l.map fun o => ⟨o.name, o.paths.filter (stays o.name)⟩).filter fun o => !o.paths.isEmpty
def foundF (blk : List UInt8 → Bool) (who : List UInt8) (l : List Own) : List (List UInt8 × List UInt8) :=
  l.flatMap fun o => (o.paths.filter fun p => o.name != who && blk p).map fun p => (o.name, p)
def pathsOfF (l : List Own) (who : List UInt8) : List (List UInt8) :=
  match l.find? (fun o => o.name == who) with
  | some o => o.paths
  | none => []
def concF (l : List Own) (p : List UInt8) : Bool := l.any fun o => o.paths.any fun q => q == p || aboveP q p || aboveP p q
def clearedF (L : List (List UInt8)) (others : List Own) (had : List (List UInt8)) (v : V) : V :=
  had.foldl (fun v p => if (thr (namesP p) v).isSome && !(L.contains p || concF others p) then outF (namesP p) v else v) v
def laidAllF (want : V) (L : List (List UInt8)) (v : V) : V := L.foldl (fun v p => laidF (namesP p) v ((thr (namesP p) want).getD zeroT)) v
def placeO (l : List Own) (who : List UInt8) : Nat := l.countP fun o => Op.bytesLess o.name who
def withOwnF (others : List Own) (o : Own) : List Own :=
  if o.paths = [] then others else others.take (placeO others o.name) ++ o :: others.drop (placeO others o.name)
noncomputable def othersF (v want : V) (l : List Own) (who : List UInt8) : List Own := keptF (fun n p => n != who && !blockedF want v (leavesF want) p) l
noncomputable def resultF (v want : V) (l : List Own) (who : List UInt8) : V := laidAllF want (leavesF want) (clearedF (leavesF want) (othersF v want l who) (pathsOfF l who) v)
noncomputable def applyF (v : V) (l : List Own) (who : List UInt8) (want : V) (force : Bool) : V × List Own × List (List UInt8 × List UInt8) × Int :=
  if (v.kind = 5 ∧ goodV v = true) ∧ (want.kind = 5 ∧ goodV want = true) ∧ goodOs l = true ∧ namedB who = true then
    if foundF (blockedF want v (leavesF want)) who l ≠ [] ∧ force = false then (v, l, foundF (blockedF want v (leavesF want)) who l, 5)
    else if goodV (resultF v want l who) = true ∧ (withOwnF (othersF v want l who) ⟨who, leavesF want⟩).length ≤ 6 then
      (resultF v want l who, withOwnF (othersF v want l who) ⟨who, leavesF want⟩, [], 0)
    else (v, l, [], 2)
  else (v, l, [], 1)
end Go.Proofs.YtmdemcjmcnfjmaaGreatDoor

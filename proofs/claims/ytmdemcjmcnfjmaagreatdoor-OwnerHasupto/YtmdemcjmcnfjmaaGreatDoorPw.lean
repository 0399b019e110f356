/- Places through objects, leaves, what is laid and taken away; paths as bytes: plainly. -/
import Derived.Test.YtmdemcjmcnfjmaaGreatDoorMa
import Derived.Test.YtmdemcjmcnfjmaaGreatDoorWa
set_option linter.unusedSimpArgs false
set_option linter.unusedVariables false
namespace Go.Proofs.YtmdemcjmcnfjmaaGreatDoor
open Go.RowKit
open Go.Lib (index count replaceK replaceAll split splitK)


def HO : Nat → V → Prop
  | 0, _ => False
  | D + 1, t => (t.kind = 5 → Ob t) ∧ ∀ x ∈ t.l, HO D x
def Obs (t : V) : Prop := ∃ D, HO D t
theorem HO.succ : ∀ (D : Nat) {t : V}, HO D t → HO (D + 1) t
  | 0, _, h => h.elim
  | D + 1, _, h => ⟨h.1, fun x hx => HO.succ D (h.2 x hx)⟩
theorem HO.le {D E : Nat} (h : D ≤ E) {t : V} (ht : HO D t) : HO E t := by
  induction h with
  | refl => exact ht
  | step _ ih => exact ih.succ
theorem GoodT.ho : ∀ (D : Nat) {t : V}, GoodT D t → HO D t
  | 0, _, h => h
  | D + 1, _, h => ⟨fun hk => ob_of h.1 hk, fun x hx => GoodT.ho D (h.2 x hx)⟩
theorem obs_good {t : V} (h : goodV t = true) : Obs t := ⟨12, (goodV_tree h).ho⟩
theorem Obs.ob {t : V} (h : Obs t) (hk : t.kind = 5) : Ob t := by
  obtain ⟨D, h⟩ := h
  cases D with
  | zero => exact h.elim
  | succ D => exact h.1 hk
theorem obs_mem {t x : V} {k : List UInt8} (h : Obs t) (hm : memV t k = some x) : Obs x := by
  obtain ⟨D, h⟩ := h
  cases D with
  | zero => exact h.elim
  | succ D => exact ⟨D, h.2 x (mem_in hm)⟩
theorem obs_zero : Obs zeroT := ⟨1, fun h => by simp [zeroT] at h, fun x hx => by simp [zeroT] at hx⟩
theorem obs_objT : Obs objT := ⟨1, fun _ => ob_objT, fun x hx => by simp [objT] at hx⟩
theorem obs_objOf {t : V} (h : Obs t) : Obs (objOf t) := by
  unfold objOf; split
  · exact h
  · exact obs_objT
theorem Obs.obOf {t : V} (h : Obs t) : Ob (objOf t) := ob_objOf h.ob
theorem obs_was {t : V} (h : Obs t) (k : List UInt8) : Obs ((memV t k).getD zeroT) := by
  cases hm : memV t k with
  | none => exact obs_zero
  | some x => exact obs_mem h hm
theorem mem_objOf (t : V) (k : List UInt8) : memV (objOf t) k = memV t k := by
  unfold objOf; split
  · rfl
  · rename_i h; simp [memV, findV, pairedV, h, objT, idxL]
theorem with_in {t x y : V} {k : List UInt8} (h : y ∈ (withV t k x).l) : y ∈ t.l ∨ y = x := by
  unfold withV at h
  split at h
  · split at h
    · simp only [List.mem_append, List.mem_cons] at h
      rcases h with h | h | h
      · exact .inl (List.mem_of_mem_take h)
      · exact .inr h
      · exact .inl (List.mem_of_mem_drop h)
    · simp only [List.mem_append, List.mem_cons] at h
      rcases h with h | h | h
      · exact .inl (List.mem_of_mem_take h)
      · exact .inr h
      · exact .inl (List.mem_of_mem_drop h)
  · exact .inl h
theorem without_in {t y : V} {k : List UInt8} (h : y ∈ (withoutV t k).l) : y ∈ t.l := by
  unfold withoutV at h
  split at h
  · simp only [List.mem_append] at h
    rcases h with h | h
    · exact List.mem_of_mem_take h
    · exact List.mem_of_mem_drop h
  · exact h
theorem obs_with {t x : V} (ht : Obs t) (ho : Ob t) (hx : Obs x) (k : List UInt8) : Obs (withV t k x) := by
  obtain ⟨D, ht⟩ := ht
  obtain ⟨E, hx⟩ := hx
  cases D with
  | zero => exact ht.elim
  | succ D =>
    refine ⟨D + E + 1, fun _ => ob_with ho k x, fun y hy => ?_⟩
    rcases with_in hy with h | rfl
    · exact (ht.2 y h).le (by omega)
    · exact hx.le (by omega)
theorem obs_without {t : V} (ht : Obs t) (ho : Ob t) (k : List UInt8) : Obs (withoutV t k) := by
  obtain ⟨D, ht⟩ := ht
  cases D with
  | zero => exact ht.elim
  | succ D => exact ⟨D + 1, fun _ => ob_without ho k, fun y hy => ht.2 y (without_in hy)⟩
theorem with_same {t y : V} (h : Ob t) {k : List UInt8} (hm : memV t k = some y) : withV t k y = t := by
  refine ob_ext (ob_with h k y) h fun k' => ?_
  by_cases e : k' = k
  · rw [e, mem_with h.paired, hm]
  · rw [mem_other h.paired _ _ _ e]

/- What stands at names, through objects. -/
def thr : List (List UInt8) → V → Option V
  | [], v => some v
  | n :: ns, v => (memV v n).bind (thr ns)
/- With something there. -/
def laidF : List (List UInt8) → V → V → V
  | [], v, x => if v.kind = 5 ∧ x.kind = 5 then v else x
  | n :: ns, v, x => withV (objOf v) n (laidF ns ((memV v n).getD zeroT) x)
theorem obs_laid : ∀ (ns : List (List UInt8)) (v x : V), Obs v → Obs x → Obs (laidF ns v x)
  | [], v, x, hv, hx => by unfold laidF; split <;> assumption
  | n :: ns, v, x, hv, hx => obs_with (obs_objOf hv) hv.obOf (obs_laid ns _ x (obs_was hv n) hx) n
theorem thr_zero {ns : List (List UInt8)} (h : ns ≠ []) : thr ns zeroT = none := by
  cases ns with
  | nil => exact absurd rfl h
  | cons n ns => simp [thr, memV, findV, pairedV, zeroT]
theorem thr_laid : ∀ (ns : List (List UInt8)) (v x : V), Obs v → thr ns (laidF ns v x) = some (if ((thr ns v).getD zeroT).kind = 5 ∧ x.kind = 5 then (thr ns v).getD zeroT else x)
  | [], v, x, hv => by simp only [thr, laidF, Option.getD_some]; rfl
  | n :: ns, v, x, hv => by
    unfold laidF
    rw [thr, mem_with hv.obOf.paired, Option.bind_some, thr_laid ns _ x (obs_was hv n)]
    rw [thr]
    cases hm : memV v n with
    | some y => simp
    | none =>
      simp only [Option.getD_none, Option.bind_none]
      cases ns with
      | nil => simp only [thr, Option.getD_some]; rfl
      | cons m ns => rw [thr_zero (by simp)]; rfl
theorem thr_laid_far : ∀ (ns b : List (List UInt8)) (v x : V), Obs v → ¬ ns <+: b → ¬ b <+: ns → thr b (laidF ns v x) = thr b v
  | [], b, v, x, hv, h1, _ => absurd (List.nil_prefix) h1
  | n :: ns, [], v, x, hv, _, h2 => absurd (List.nil_prefix) h2
  | n :: ns, m :: bs, v, x, hv, h1, h2 => by
    unfold laidF
    rw [thr, thr]
    by_cases e : m = n
    · subst e
      rw [mem_with hv.obOf.paired, Option.bind_some, thr_laid_far ns bs _ x (obs_was hv m) (fun h => h1 (List.cons_prefix_cons.2 ⟨rfl, h⟩)) (fun h => h2 (List.cons_prefix_cons.2 ⟨rfl, h⟩))]
      cases hm : memV v m with
      | some y => rfl
      | none =>
        have : bs ≠ [] := fun e => h2 (by rw [e]; exact List.cons_prefix_cons.2 ⟨rfl, List.nil_prefix⟩)
        simp [thr_zero this]
    · rw [mem_other hv.obOf.paired _ _ _ e, mem_objOf]
theorem thr_kind {n : List UInt8} {ns : List (List UInt8)} {v y : V} (h : thr (n :: ns) v = some y) : v.kind = 5 ∧ ∃ z, memV v n = some z ∧ thr ns z = some y := by
  unfold thr at h
  cases hm : memV v n with
  | none => rw [hm] at h; cases h
  | some z =>
    rw [hm] at h
    refine ⟨?_, z, rfl, h⟩
    by_cases hk : v.kind = 5
    · exact hk
    · simp [memV, findV, pairedV, hk] at hm
theorem laid_same : ∀ (ns : List (List UInt8)) (v x y : V), Obs v → thr ns v = some y → (y = x ∨ y.kind = 5 ∧ x.kind = 5) → laidF ns v x = v
  | [], v, x, y, hv, h, hy => by
    simp only [thr, Option.some.injEq] at h
    subst h
    unfold laidF
    split
    · rfl
    · rename_i hn
      rcases hy with h | h
      · exact h.symm
      · exact absurd h hn
  | n :: ns, v, x, y, hv, h, hy => by
    obtain ⟨hk, z, hm, hz⟩ := thr_kind h
    unfold laidF
    rw [hm, Option.getD_some, laid_same ns z x y (obs_mem hv hm) hz hy]
    have : objOf v = v := by simp [objOf, hk]
    rw [this]
    exact with_same (hv.ob hk) hm
/- Without what stands there. -/
def outF : List (List UInt8) → V → V
  | [], v => v
  | [n], v => withoutV v n
  | n :: m :: ns, v => if (outF (m :: ns) ((memV v n).getD zeroT)).l = [] then withoutV v n else withV v n (outF (m :: ns) ((memV v n).getD zeroT))
theorem thr_items {b : List (List UInt8)} {v y : V} (h : thr b v = some y) (hb : b ≠ []) : v.l ≠ [] := by
  cases b with
  | nil => exact absurd rfl hb
  | cons m bs =>
    obtain ⟨hk, z, hm, hz⟩ := thr_kind h
    exact List.ne_nil_of_mem (mem_in hm)
theorem thr_out_far : ∀ (ns b : List (List UInt8)) (v x : V), Obs v → v.kind = 5 → ¬ ns <+: b → ¬ b <+: ns → thr b v = some x → thr b (outF ns v) = some x
  | [], b, v, x, hv, _, h1, _, _ => absurd (List.nil_prefix) h1
  | n :: ns, [], v, x, hv, _, _, h2, _ => absurd (List.nil_prefix) h2
  | [n], m :: bs, v, x, hv, hk, h1, h2, h => by
    have e : m ≠ n := fun e => h1 (by rw [e]; exact List.cons_prefix_cons.2 ⟨rfl, List.nil_prefix⟩)
    unfold outF
    unfold thr at h ⊢
    rw [mem_without_other (hv.ob hk) e]
    exact h
  | n :: n' :: ns, m :: bs, v, x, hv, hk, h1, h2, h => by
    unfold outF
    obtain ⟨-, z, hm, hz⟩ := thr_kind h
    by_cases e : m = n
    · subst e
      rw [hm, Option.getD_some]
      have hne : bs ≠ [] := fun e => h2 (by rw [e]; exact List.cons_prefix_cons.2 ⟨rfl, List.nil_prefix⟩)
      have hkz : z.kind = 5 := by
        cases bs with
        | nil => exact absurd rfl hne
        | cons b bs => exact (thr_kind hz).1
      have ih := thr_out_far (n' :: ns) bs z x (obs_mem hv hm) hkz (fun h => h1 (List.cons_prefix_cons.2 ⟨rfl, h⟩)) (fun h => h2 (List.cons_prefix_cons.2 ⟨rfl, h⟩)) hz
      rw [if_neg (thr_items ih hne), thr, mem_with (hv.ob hk).paired]
      exact ih
    · split
      · rw [thr, mem_without_other (hv.ob hk) e]; exact h
      · rw [thr, mem_other (hv.ob hk).paired _ _ _ e]; exact h
theorem obs_out : ∀ (ns : List (List UInt8)) (v : V), Obs v → v.kind = 5 → (∃ y, thr ns v = some y) → Obs (outF ns v) ∧ (outF ns v).kind = (if ns = [] then v.kind else 5)
  | [], v, hv, _, _ => ⟨hv, by simp [outF]⟩
  | [n], v, hv, hk, _ => ⟨obs_without hv (hv.ob hk) n, (ob_without (hv.ob hk) n).1⟩
  | n :: m :: ns, v, hv, hk, ⟨y, hy⟩ => by
    obtain ⟨-, z, hm, hz⟩ := thr_kind hy
    have hkz : z.kind = 5 := (thr_kind hz).1
    have ih := obs_out (m :: ns) z (obs_mem hv hm) hkz ⟨y, hz⟩
    unfold outF
    rw [hm, Option.getD_some]
    split
    · exact ⟨obs_without hv (hv.ob hk) n, (ob_without (hv.ob hk) n).1⟩
    · exact ⟨obs_with hv (hv.ob hk) ih.1 n, (ob_with (hv.ob hk) n _).1⟩


/- Neither begins with the other. -/
def Apart (a b : List (List UInt8)) : Prop := ¬ a <+: b ∧ ¬ b <+: a
theorem Apart.symm {a b : List (List UInt8)} (h : Apart a b) : Apart b a := ⟨h.2, h.1⟩
theorem Apart.cons {a b : List (List UInt8)} (h : Apart a b) (k : List UInt8) : Apart (k :: a) (k :: b) :=
  ⟨fun e => h.1 (List.cons_prefix_cons.1 e).2, fun e => h.2 (List.cons_prefix_cons.1 e).2⟩
theorem apart_of_head {k m : List UInt8} (h : k ≠ m) (a b : List (List UInt8)) : Apart (k :: a) (m :: b) :=
  ⟨fun e => h (List.cons_prefix_cons.1 e).1, fun e => h (List.cons_prefix_cons.1 e).1.symm⟩

/- The names of all leaves, by the order of keys. -/
def lvs : Nat → V → List (List (List UInt8))
  | 0, _ => []
  | D + 1, v => (v.keys.zip v.l).flatMap fun p => if p.2.kind = 5 ∧ p.2.l ≠ [] then (lvs D p.2).map (p.1 :: ·) else [[p.1]]
def LeafV (x : V) : Prop := ¬ (x.kind = 5 ∧ x.l ≠ [])
theorem lvs_in {D : Nat} {v : V} {ns : List (List UInt8)} (h : ns ∈ lvs (D + 1) v) : ∃ k x, (k, x) ∈ v.keys.zip v.l ∧ ((x.kind = 5 ∧ x.l ≠ []) ∧ (∃ r, r ∈ lvs D x ∧ ns = k :: r) ∨ LeafV x ∧ ns = [k]) := by
  unfold lvs at h
  rw [List.mem_flatMap] at h
  obtain ⟨⟨k, x⟩, hp, h⟩ := h
  refine ⟨k, x, hp, ?_⟩
  by_cases hc : x.kind = 5 ∧ x.l ≠ []
  · rw [if_pos hc, List.mem_map] at h
    obtain ⟨r, hr, rfl⟩ := h
    exact .inl ⟨hc, r, hr, rfl⟩
  · rw [if_neg hc, List.mem_singleton] at h
    exact .inr ⟨hc, h⟩
theorem lvs_ne {D : Nat} {v : V} {ns : List (List UInt8)} (h : ns ∈ lvs D v) : ns ≠ [] := by
  cases D with
  | zero => simp [lvs] at h
  | succ D =>
    obtain ⟨k, x, -, ⟨-, r, -, rfl⟩ | ⟨-, rfl⟩⟩ := lvs_in h <;> simp
theorem look_of_mem {ps : List (List UInt8 × V)} (hn : (ps.map Prod.fst).Nodup) {k : List UInt8} {x : V} (h : (k, x) ∈ ps) : look k ps = some x := by
  induction ps with
  | nil => cases h
  | cons p ps ih =>
    rw [List.map_cons, List.nodup_cons] at hn
    rcases List.mem_cons.1 h with e | h
    · subst e; simp [look]
    · have : p.1 ≠ k := fun e => hn.1 (by rw [e]; exact List.mem_map.2 ⟨(k, x), h, rfl⟩)
      rw [look, if_neg this, ih hn.2 h]
theorem mem_of_zip {v x : V} {k : List UInt8} (h : Ob v) (hx : (k, x) ∈ v.keys.zip v.l) : memV v k = some x := by
  rw [memV_look h.paired]
  exact look_of_mem (ob_nodup h) hx
theorem zip_of_mem {v x : V} {k : List UInt8} (h : Ob v) (hx : memV v k = some x) : (k, x) ∈ v.keys.zip v.l := by
  rw [memV_look h.paired] at hx
  exact look_mem hx
theorem HO.item {D : Nat} {v x : V} {k : List UInt8} (h : HO (D + 1) v) (hx : (k, x) ∈ v.keys.zip v.l) : HO D x := h.2 x (List.of_mem_zip hx).2
theorem lvs_thr : ∀ (D : Nat) (v : V) (ns : List (List UInt8)), HO D v → v.kind = 5 → ns ∈ lvs D v → ∃ x, thr ns v = some x ∧ LeafV x
  | 0, v, ns, h, _, _ => h.elim
  | D + 1, v, ns, h, hk, hn => by
    obtain ⟨k, x, hp, ⟨hc, r, hr, rfl⟩ | ⟨hl, rfl⟩⟩ := lvs_in hn
    · obtain ⟨y, h1, h2⟩ := lvs_thr D x r (h.item hp) hc.1 hr
      exact ⟨y, by rw [thr, mem_of_zip (h.1 hk) hp]; exact h1, h2⟩
    · exact ⟨x, by rw [thr, mem_of_zip (h.1 hk) hp]; rfl, hl⟩
theorem lvs_cover : ∀ (D : Nat) (v : V) (ns : List (List UInt8)) (x : V), HO D v → ns ≠ [] → thr ns v = some x → LeafV x → ns ∈ lvs D v
  | 0, v, ns, x, h, _, _, _ => h.elim
  | D + 1, v, [], x, h, hne, _, _ => absurd rfl hne
  | D + 1, v, n :: ns, x, h, _, ht, hl => by
    obtain ⟨hk, z, hm, hz⟩ := thr_kind ht
    have hp := zip_of_mem (h.1 hk) hm
    unfold lvs
    rw [List.mem_flatMap]
    refine ⟨(n, z), hp, ?_⟩
    by_cases hc : z.kind = 5 ∧ z.l ≠ []
    · rw [if_pos hc, List.mem_map]
      have hne : ns ≠ [] := fun e => by subst e; cases hz; exact hl hc
      exact ⟨ns, lvs_cover D z ns x (h.item hp) hne hz hl, rfl⟩
    · rw [if_neg hc, List.mem_singleton]
      cases ns with
      | nil => rfl
      | cons m ns =>
        exfalso
        exact hc ⟨(thr_kind hz).1, thr_items hz (by simp)⟩
theorem lvs_apart : ∀ (D : Nat) (v : V), HO D v → v.kind = 5 → (lvs D v).Pairwise Apart
  | 0, v, h, _ => h.elim
  | D + 1, v, h, hk => by
    have hnd := ob_nodup (h.1 hk)
    have hit : ∀ p ∈ v.keys.zip v.l, HO D p.2 := fun p hp => h.item (k := p.1) (x := p.2) hp
    unfold lvs
    generalize v.keys.zip v.l = ps at *
    clear h hk
    induction ps with
    | nil => exact List.Pairwise.nil
    | cons p ps ih =>
      rw [List.map_cons, List.nodup_cons] at hnd
      rw [List.flatMap_cons, List.pairwise_append]
      refine ⟨?_, ih hnd.2 (fun q hq => hit q (List.mem_cons_of_mem _ hq)), ?_⟩
      · by_cases hc : p.2.kind = 5 ∧ p.2.l ≠ []
        · rw [if_pos hc]
          rw [List.pairwise_map]
          exact (lvs_apart D p.2 (hit p (by simp)) hc.1).imp fun h => h.cons _
        · rw [if_neg hc]; simp
      · intro a ha b hb
        rw [List.mem_flatMap] at hb
        obtain ⟨q, hq, hb⟩ := hb
        have hne : p.1 ≠ q.1 := fun e => hnd.1 (by rw [e]; exact List.mem_map.2 ⟨q, hq, rfl⟩)
        have ha' : ∃ r, a = p.1 :: r := by
          split at ha
          · rw [List.mem_map] at ha; obtain ⟨r, -, rfl⟩ := ha; exact ⟨r, rfl⟩
          · rw [List.mem_singleton] at ha; exact ⟨[], ha⟩
        have hb' : ∃ r, b = q.1 :: r := by
          split at hb
          · rw [List.mem_map] at hb; obtain ⟨r, -, rfl⟩ := hb; exact ⟨r, rfl⟩
          · rw [List.mem_singleton] at hb; exact ⟨[], hb⟩
        obtain ⟨r, rfl⟩ := ha'
        obtain ⟨s, rfl⟩ := hb'
        exact apart_of_head hne r s

/- All leaves are laid. -/
def layAll (want : V) (L : List (List (List UInt8))) (v : V) : V := L.foldl (fun v a => laidF a v ((thr a want).getD zeroT)) v
theorem obs_thr : ∀ (ns : List (List UInt8)) (v x : V), Obs v → thr ns v = some x → Obs x
  | [], v, x, h, e => by cases e; exact h
  | n :: ns, v, x, h, e => by
    obtain ⟨-, z, hm, hz⟩ := thr_kind e
    exact obs_thr ns z x (obs_mem h hm) hz
theorem obs_thrD {want : V} (h : Obs want) (a : List (List UInt8)) : Obs ((thr a want).getD zeroT) := by
  cases e : thr a want with
  | none => exact obs_zero
  | some x => exact obs_thr a want x h e
theorem laid_kind {ns : List (List UInt8)} (h : ns ≠ []) {v x : V} (hv : Obs v) : (laidF ns v x).kind = 5 := by
  cases ns with
  | nil => exact absurd rfl h
  | cons n ns => unfold laidF; exact (ob_with hv.obOf n _).1
theorem layAll_obs {want : V} (hw : Obs want) : ∀ (L : List (List (List UInt8))) (v : V), (∀ a ∈ L, a ≠ []) → Obs v → v.kind = 5 → Obs (layAll want L v) ∧ (layAll want L v).kind = 5
  | [], v, _, h, hk => ⟨h, hk⟩
  | a :: L, v, hne, h, hk => layAll_obs hw L _ (fun b hb => hne b (by simp [hb])) (obs_laid a v _ h (obs_thrD hw a)) (laid_kind (hne a (by simp)) h)
theorem layAll_far {want : V} (hw : Obs want) {b : List (List UInt8)} : ∀ (L : List (List (List UInt8))) (v : V), (∀ a ∈ L, Apart a b) → Obs v → thr b (layAll want L v) = thr b v
  | [], v, _, _ => rfl
  | a :: L, v, hL, h => by
    have e : layAll want (a :: L) v = layAll want L (laidF a v ((thr a want).getD zeroT)) := rfl
    rw [e, layAll_far hw L _ (fun c hc => hL c (by simp [hc])) (obs_laid a v _ h (obs_thrD hw a)), thr_laid_far a b v _ h (hL a (by simp)).1 (hL a (by simp)).2]
theorem layAll_at {want : V} (hw : Obs want) {b : List (List UInt8)} : ∀ (L : List (List (List UInt8))) (v : V), L.Pairwise Apart → Obs v → b ∈ L →
    thr b (layAll want L v) = some (if ((thr b v).getD zeroT).kind = 5 ∧ ((thr b want).getD zeroT).kind = 5 then (thr b v).getD zeroT else (thr b want).getD zeroT)
  | [], v, _, _, hb => by cases hb
  | a :: L, v, hp, h, hb => by
    rw [List.pairwise_cons] at hp
    have e : layAll want (a :: L) v = layAll want L (laidF a v ((thr a want).getD zeroT)) := rfl
    rw [e]
    rcases List.mem_cons.1 hb with rfl | hb
    · rw [layAll_far hw L _ (fun c hc => (hp.1 c hc).symm) (obs_laid _ v _ h (obs_thrD hw _)), thr_laid _ v _ h]
    · rw [layAll_at hw L _ hp.2 (obs_laid a v _ h (obs_thrD hw a)) hb]
      have ha := hp.1 b hb
      rw [thr_laid_far a b v _ h ha.1 ha.2]
theorem layAll_same {want : V} : ∀ (L : List (List (List UInt8))) (v : V), Obs v → (∀ b ∈ L, ∃ y, thr b v = some y ∧ (y = (thr b want).getD zeroT ∨ y.kind = 5 ∧ ((thr b want).getD zeroT).kind = 5)) → layAll want L v = v
  | [], v, _, _ => rfl
  | a :: L, v, h, hL => by
    obtain ⟨y, h1, h2⟩ := hL a (by simp)
    have e : layAll want (a :: L) v = layAll want L (laidF a v ((thr a want).getD zeroT)) := rfl
    rw [e, laid_same a v _ y h h1 h2]
    exact layAll_same L v h fun b hb => hL b (by simp [hb])
/- What was somebody's alone is taken away. -/
def clearF (keep : List (List UInt8) → Bool) (had : List (List (List UInt8))) (v : V) : V := had.foldl (fun v p => if (thr p v).isSome && !keep p then outF p v else v) v
theorem clear_obs {keep : List (List UInt8) → Bool} : ∀ (had : List (List (List UInt8))) (v : V), (∀ p ∈ had, p ≠ []) → Obs v → v.kind = 5 → Obs (clearF keep had v) ∧ (clearF keep had v).kind = 5
  | [], v, _, h, hk => ⟨h, hk⟩
  | p :: had, v, hne, h, hk => by
    have e : clearF keep (p :: had) v = clearF keep had (if (thr p v).isSome && !keep p then outF p v else v) := rfl
    rw [e]
    split
    · rename_i hc
      rw [Bool.and_eq_true, Option.isSome_iff_exists] at hc
      obtain ⟨h1, h2⟩ := obs_out p v h hk hc.1
      rw [if_neg (hne p (by simp))] at h2
      exact clear_obs had _ (fun q hq => hne q (by simp [hq])) h1 h2
    · exact clear_obs had _ (fun q hq => hne q (by simp [hq])) h hk
theorem clear_far {keep : List (List UInt8) → Bool} {b : List (List UInt8)} {x : V} : ∀ (had : List (List (List UInt8))) (v : V), (∀ p ∈ had, p ≠ []) → (∀ p ∈ had, keep p = false → Apart p b) → Obs v → v.kind = 5 → thr b v = some x → thr b (clearF keep had v) = some x
  | [], v, _, _, _, _, h => h
  | p :: had, v, hne, hb, h, hk, ht => by
    have e : clearF keep (p :: had) v = clearF keep had (if (thr p v).isSome && !keep p then outF p v else v) := rfl
    rw [e]
    split
    · rename_i hc
      rw [Bool.and_eq_true, Option.isSome_iff_exists] at hc
      obtain ⟨h1, h2⟩ := obs_out p v h hk hc.1
      rw [if_neg (hne p (by simp))] at h2
      have hap := hb p (by simp) (by simpa using hc.2)
      exact clear_far had _ (fun q hq => hne q (by simp [hq])) (fun q hq => hb q (by simp [hq])) h1 h2 (thr_out_far p b v x h hk hap.1 hap.2 ht)
    · exact clear_far had _ (fun q hq => hne q (by simp [hq])) (fun q hq => hb q (by simp [hq])) h hk ht
theorem clear_none {keep : List (List UInt8) → Bool} : ∀ (had : List (List (List UInt8))) (v : V), (∀ p ∈ had, keep p = true) → clearF keep had v = v
  | [], v, _ => rfl
  | p :: had, v, h => by
    have e : clearF keep (p :: had) v = clearF keep had (if (thr p v).isSome && !keep p then outF p v else v) := rfl
    rw [e, h p (by simp)]
    simp only [Bool.not_true, Bool.and_false, Bool.false_eq_true, if_false]
    exact clear_none had v fun q hq => h q (by simp [hq])

/- Paths as bytes. -/
theorem join_cons (n : List UInt8) (ns : List (List UInt8)) : joinP (n :: ns) = 47 :: (markedL n ++ joinP ns) := by simp [joinP]
theorem join_append (a b : List (List UInt8)) : joinP (a ++ b) = joinP a ++ joinP b := by simp [joinP]
theorem marked_free (s : List UInt8) : 47 ∉ markedL s := by rw [marked_eq]; exact esc_free s
theorem marked_inj {a b : List UInt8} (h : markedL a = markedL b) : a = b := by
  rw [marked_eq, marked_eq] at h
  rw [← unmarked_marked a, h, unmarked_marked]
theorem free_prefix : ∀ (X Y r s : List UInt8), 47 ∉ X → 47 ∉ Y → (s = [] ∨ ∃ s', s = 47 :: s') → X ++ 47 :: r <+: Y ++ s → X = Y ∧ 47 :: r <+: s
  | [], [], r, s, _, _, _, h => ⟨rfl, h⟩
  | [], y :: Y, r, s, _, hY, _, h => by
    simp only [List.nil_append, List.cons_append, List.cons_prefix_cons] at h
    exact absurd (by rw [h.1]; simp) hY
  | x :: X, [], r, s, hX, _, hs, h => by
    rcases hs with rfl | ⟨s', rfl⟩
    · simp at h
    · simp only [List.cons_append, List.nil_append, List.cons_prefix_cons] at h
      exact absurd (by rw [← h.1]; simp) hX
  | x :: X, y :: Y, r, s, hX, hY, hs, h => by
    simp only [List.cons_append, List.cons_prefix_cons] at h
    obtain ⟨h1, h2⟩ := free_prefix X Y r s (fun e => hX (by simp [e])) (fun e => hY (by simp [e])) hs h.2
    exact ⟨by rw [h.1, h1], h2⟩
theorem join_head (b : List (List UInt8)) : joinP b = [] ∨ ∃ s, joinP b = 47 :: s := by
  cases b with
  | nil => exact .inl rfl
  | cons n ns => exact .inr ⟨_, join_cons n ns⟩
theorem join_inj : ∀ (a b : List (List UInt8)), joinP a = joinP b → a = b
  | [], [], _ => rfl
  | [], n :: ns, h => by rw [join_cons] at h; simp [joinP] at h
  | n :: ns, [], h => by rw [join_cons] at h; simp [joinP] at h
  | n :: ns, m :: ms, h => by
    rw [join_cons, join_cons] at h
    simp only [List.cons.injEq, true_and] at h
    have h2 : markedL n ++ 47 :: [] ++ [] <+: markedL n ++ (joinP ns ++ [47]) ∨ True := .inr trivial
    have key : markedL n = markedL m ∧ joinP ns = joinP ms := by
      have hn := marked_free n
      have hm := marked_free m
      have e1 : ∀ (X Y r s : List UInt8), 47 ∉ X → 47 ∉ Y → (r = [] ∨ ∃ s', r = 47 :: s') → (s = [] ∨ ∃ s', s = 47 :: s') → X ++ r = Y ++ s → X = Y ∧ r = s := by
        intro X
        induction X with
        | nil =>
          intro Y r s _ hY hr hs e
          cases Y with
          | nil => exact ⟨rfl, e⟩
          | cons y Y =>
            rcases hr with rfl | ⟨r', rfl⟩
            · simp at e
            · simp only [List.nil_append, List.cons_append, List.cons.injEq] at e
              exact absurd (by rw [e.1]; simp) hY
        | cons x X ih =>
          intro Y r s hX hY hr hs e
          cases Y with
          | nil =>
            rcases hs with rfl | ⟨s', rfl⟩
            · simp at e
            · simp only [List.nil_append, List.cons_append, List.cons.injEq] at e
              exact absurd (by rw [e.1]; simp) hX
          | cons y Y =>
            simp only [List.cons_append, List.cons.injEq] at e
            obtain ⟨h1, h2⟩ := ih Y r s (fun h => hX (by simp [h])) (fun h => hY (by simp [h])) hr hs e.2
            exact ⟨by rw [e.1, h1], h2⟩
      exact e1 _ _ _ _ hn hm (join_head ns) (join_head ms) h
    rw [marked_inj key.1, join_inj ns ms key.2]
def aboveP (p q : List UInt8) : Bool := (p ++ [47]).isPrefixOf q
theorem above_join : ∀ (a b : List (List UInt8)), aboveP (joinP a) (joinP b) = true ↔ a <+: b ∧ a ≠ b
  | [], [] => by simp [aboveP, joinP]
  | [], n :: ns => by rw [join_cons]; simp [aboveP, joinP]
  | n :: ns, [] => by rw [join_cons]; simp [aboveP, joinP]
  | n :: ns, m :: ms => by
    rw [join_cons, join_cons]
    unfold aboveP
    rw [List.isPrefixOf_iff_prefix, List.cons_append, List.cons_prefix_cons, List.append_assoc]
    have ih := above_join ns ms
    unfold aboveP at ih
    rw [List.isPrefixOf_iff_prefix] at ih
    have hh : ∃ r, joinP ns ++ [47] = 47 :: r := by
      rcases join_head ns with h | ⟨s, h⟩
      · exact ⟨[], by rw [h]; rfl⟩
      · exact ⟨s ++ [47], by rw [h]; rfl⟩
    obtain ⟨r, hr⟩ := hh
    constructor
    · rintro ⟨-, h⟩
      rw [hr] at h ih
      obtain ⟨h1, h2⟩ := free_prefix _ _ _ _ (marked_free n) (marked_free m) (join_head ms) h
      obtain ⟨h3, h4⟩ := ih.1 h2
      have e := marked_inj h1
      subst e
      exact ⟨List.cons_prefix_cons.2 ⟨rfl, h3⟩, fun e => h4 (by simpa using e)⟩
    · rintro ⟨h1, h2⟩
      obtain ⟨rfl, h3⟩ := List.cons_prefix_cons.1 h1
      exact ⟨rfl, (List.prefix_append_right_inj _).2 (ih.2 ⟨h3, fun e => h2 (by rw [e])⟩)⟩
theorem apart_iff (a b : List (List UInt8)) : Apart a b ↔ a ≠ b ∧ aboveP (joinP a) (joinP b) = false ∧ aboveP (joinP b) (joinP a) = false := by
  have h1 := above_join a b
  have h2 := above_join b a
  constructor
  · rintro ⟨h3, h4⟩
    refine ⟨fun e => h3 (by rw [e]; exact List.prefix_rfl), ?_, ?_⟩
    · rw [Bool.eq_false_iff]; exact fun e => h3 (h1.1 e).1
    · rw [Bool.eq_false_iff]; exact fun e => h4 (h2.1 e).1
  · rintro ⟨h3, h4, h5⟩
    refine ⟨fun e => ?_, fun e => ?_⟩
    · rw [h1.2 ⟨e, h3⟩] at h4; cases h4
    · rw [h2.2 ⟨e, fun h => h3 h.symm⟩] at h5; cases h5
end Go.Proofs.YtmdemcjmcnfjmaaGreatDoor

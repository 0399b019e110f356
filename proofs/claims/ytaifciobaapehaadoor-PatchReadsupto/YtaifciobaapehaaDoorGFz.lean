/- What CopyValue of the reference does, so told. -/
import Derived.Test.YtaifciobaapehaaDoorXz
import Derived.Deep.AppendLies
import Derived.Laws.IdiomStrings
import Derived.Shelf.SlSortCmp.QuietGrown
import Derived.Test.YtaifciobaapehaaDoorTp
import Derived.Deep.CutBlock
import Derived.Deep.DrawnRows
import Derived.Maps.AppendAt
import Derived.Laws.AppendOwnNone
import Derived.Deep.RegionLaw
/- How many values there are in one; lists of values in memory. -/
set_option linter.unusedSimpArgs false
set_option linter.unusedVariables false
namespace Go.Proofs.YtaifciobaapehaaDoor
open Go.RowKit

/- How many values there are in one. -/
def cnt : V → Nat
  | ⟨_, _, _, _, l⟩ => 1 + (l.map cnt).sum
def cnts (xs : List V) : Nat := (xs.map cnt).sum
theorem cnts_nil : cnts [] = 0 := rfl
theorem cnts_cons (x : V) (xs : List V) : cnts (x :: xs) = cnt x + cnts xs := by simp [cnts]
theorem cnt_eq (t : V) : cnt t = 1 + cnts t.l := by cases t; rw [cnt]; rfl
theorem cnts_drop {xs : List V} {k : Nat} (h : k < xs.length) : cnts (xs.drop k) = cnt xs[k] + cnts (xs.drop (k + 1)) := by
  rw [List.drop_eq_getElem_cons h, cnts_cons]
theorem cnts_len : ∀ (xs : List V), xs.length ≤ cnts xs
  | [] => Nat.le_refl _
  | x :: xs => by
    have := cnts_len xs
    have := cnt_eq x
    rw [cnts_cons, List.length_cons]; omega
theorem cnts_mem {xs : List V} {x : V} (h : x ∈ xs) : cnt x ≤ cnts xs := by
  induction xs with
  | nil => cases h
  | cons y xs ih =>
    rw [cnts_cons]
    rcases List.mem_cons.1 h with rfl | h
    · omega
    · have := ih h; omega
theorem cnt_sz (D : Nat) : ∀ (t : V), GoodT D t → cnt t = szD D t := by
  induction D with
  | zero => intro t h; exact h.elim
  | succ D ih =>
    intro t h
    rw [cnt_eq, szD]
    congr 1
    obtain ⟨-, h⟩ := h
    generalize t.l = l at h
    induction l with
    | nil => rfl
    | cons y l ihl =>
      rw [cnts_cons, ih y (h y (by simp)), ihl fun x hx => h x (by simp [hx])]; simp
theorem nice_cnt {t : V} (h : Nice t) : cnt t ≤ 120 := by
  obtain ⟨D, h1, h2⟩ := h
  rw [cnt_sz D t h1]; exact h2
/- How much waits. -/
def mu (ls : List (List V)) : Nat := (ls.map fun l => 1 + cnts l).sum
theorem mu_push (ls : List (List V)) (l : List V) : mu (ls ++ [l]) = mu ls + (1 + cnts l) := by simp [mu]
theorem mu_len (ls : List (List V)) : ls.length ≤ mu ls := by
  unfold mu
  induction ls with
  | nil => simp
  | cons l ls ih => simp only [List.map_cons, List.sum_cons, List.length_cons]; omega

/- A list of values in memory, whatever their depth. -/
def ValsIn (w : World) (ok : Nat → Prop) (xs : List V) (v : Value) : Prop := In w ok ⟨0, 0, [], [], xs⟩ (.agg #[.int .i64 0, .int .i64 0, .string ⟨#[]⟩, .slice none 0 0, v])
theorem ValsIn.bel {w w' : World} {ok : Nat → Prop} {xs : List V} {v : Value} (h : ValsIn w ok xs v) (hb : Below w.heap.size w w') : ValsIn w' ok xs v := In.bel h hb
theorem ValsIn.weak {w : World} {ok ok' : Nat → Prop} {xs : List V} {v : Value} (h : ValsIn w ok xs v) (hk : ∀ k, ok k → ok' k) : ValsIn w ok' xs v := In.weak h hk
theorem ValsIn.grown {w w' : World} {ok : Nat → Prop} {g : Nat} {xs : List V} {v : Value} (h : ValsIn w ok xs v) (hg : w.grownBy w' (some g)) (hr : ∀ k, ok k → k ≠ g) : ValsIn w' ok xs v := In.grown h hg hr
theorem ValsIn.form {w : World} {ok : Nat → Prop} {xs : List V} {v : Value} (h : ValsIn w ok xs v) : ∃ a c, v = .slice a xs.length c := by
  obtain ⟨a7, a8, c7, c8, e⟩ := In.form h
  simp only [Value.agg.injEq, Array.mk.injEq, List.cons.injEq, and_true] at e
  exact ⟨a8, c8, e.2.2.2.2⟩
theorem ValsIn.len {w : World} {ok : Nat → Prop} {xs : List V} {v : Value} (h : ValsIn w ok xs v) : xs.length ≤ 9223372036854775807 := (In.lens h).2.1
theorem In.vals {w : World} {ok : Nat → Prop} {t : V} {k n s ks ls : Value} (h : In w ok t (.agg #[k, n, s, ks, ls])) : ValsIn w ok t.l ls := by
  obtain ⟨d, h⟩ := h.at
  obtain ⟨ks', ls', e, -, -, -, -, h5⟩ := h
  simp only [Value.agg.injEq, Array.mk.injEq, List.cons.injEq, and_true] at e
  obtain ⟨-, -, -, -, rfl⟩ := e
  exact ⟨d + 1, _, _, rfl, by unfold I64; simp, by unfold I64; simp, by simp [maxLen], ⟨by simp [maxLen], .inl ⟨rfl, none, rfl⟩⟩, h5⟩
theorem ValsIn.item {w : World} {ok : Nat → Prop} {xs : List V} {a : Option Addr} {m c i : Nat} (h : ValsIn w ok xs (.slice a m c)) (hi : i < xs.length) :
    ∃ b off a5 c5 a6 c6, a = some ⟨b, off, none⟩ ∧ xs.length ≤ c ∧ c ≤ 9223372036854775807 ∧ w.cell? ⟨b, off + i * 5, none⟩ = some (.int .i64 xs[i].kind) ∧ w.cell? ⟨b, off + i * 5 + 1, none⟩ = some (.int .i64 xs[i].n) ∧ w.cell? ⟨b, off + i * 5 + 2, none⟩ = some (.string ⟨xs[i].s.toArray⟩) ∧
      w.cell? ⟨b, off + i * 5 + 3, none⟩ = some (.slice a5 xs[i].keys.length c5) ∧ w.cell? ⟨b, off + i * 5 + 4, none⟩ = some (.slice a6 xs[i].l.length c6) ∧ In w ok xs[i] (.agg #[.int .i64 xs[i].kind, .int .i64 xs[i].n, .string ⟨xs[i].s.toArray⟩, .slice a5 xs[i].keys.length c5, .slice a6 xs[i].l.length c6]) :=
  In.item h hi
theorem ValsIn.blk {w : World} {ok : Nat → Prop} {xs : List V} {b off m c i : Nat} (h : ValsIn w ok xs (.slice (some ⟨b, off, none⟩) m c)) (hi : i < xs.length) : ok b := by
  obtain ⟨d, h⟩ := In.at h
  obtain ⟨ks', ls, e, -, -, -, -, h5⟩ := h
  simp only [Value.agg.injEq, Array.mk.injEq, List.cons.injEq, and_true] at e
  obtain ⟨-, -, -, -, rfl⟩ := e
  obtain ⟨-, h5⟩ := h5
  rcases h5 with ⟨e, _⟩ | ⟨b', off', c', e, h1, h2, hcs⟩
  · simp only at e; rw [e] at hi; simp at hi
  · simp only [Value.slice.injEq, Option.some.injEq, Addr.mk.injEq] at e
    obtain ⟨⟨rfl, -, -⟩, -, -⟩ := e
    obtain ⟨_, _, _, _, _, g, _⟩ := hcs i xs[i] (List.getElem?_eq_getElem hi)
    exact g
/- A list of one, in a block of its own. -/
theorem vals_one {w : World} {ok : Nat → Prop} {t : V} {g : Nat} {c0 c1 c2 c3 c4 : Value} (h : In w ok t (.agg #[c0, c1, c2, c3, c4])) (hb : BoxIs w g c0 c1 c2 c3 c4) (hok : ok g) : ValsIn w ok [t] (.slice (some ⟨g, 0, none⟩) 1 1) := by
  obtain ⟨d, h⟩ := h
  obtain ⟨b0, b1, b2, b3, b4, -⟩ := hb.c
  refine ⟨d + 1, _, _, rfl, by unfold I64; simp, by unfold I64; simp, by simp [maxLen], ⟨by simp [maxLen], .inl ⟨rfl, none, rfl⟩⟩, by simp [maxLen], .inr ⟨g, 0, 1, rfl, by simp, by simp [maxLen], ?_⟩⟩
  intro i x hx
  cases i with
  | zero =>
    simp only [List.getElem?_cons_zero, Option.some.injEq] at hx
    subst hx
    exact ⟨c0, c1, c2, c3, c4, hok, by simpa using b0, by simpa using b1, by simpa using b2, by simpa using b3, by simpa using b4, h⟩
  | succ i => simp at hx
end Go.Proofs.YtaifciobaapehaaDoor

/- Depth, number and form of values, as the reference tells them; what is good. -/
set_option linter.unusedSimpArgs false
set_option linter.unusedVariables false
namespace Go.Proofs.YtaifciobaapehaaDoor
open Go.RowKit

/- The greatest of a list. -/
def top (l : List Nat) : Nat := l.foldr max 0
def dpt : V → Nat
  | ⟨_, _, _, _, l⟩ => top (l.map dpt) + 1
def dpts (xs : List V) : Nat := top (xs.map dpt)
theorem dpts_nil : dpts [] = 0 := rfl
theorem dpts_cons (x : V) (xs : List V) : dpts (x :: xs) = max (dpt x) (dpts xs) := by simp [dpts, top]
def shp : V → Bool
  | ⟨k, n, s, ks, l⟩ => shapedB ⟨k, n, s, ks, l⟩ && (l.map shp).all id
def shps (xs : List V) : Bool := (xs.map shp).all id
theorem shps_nil : shps [] = true := rfl
theorem shps_cons (x : V) (xs : List V) : shps (x :: xs) = (shp x && shps xs) := by simp [shps]
theorem dpt_eq (t : V) : dpt t = dpts t.l + 1 := by cases t; rw [dpt]; rfl
theorem shp_eq (t : V) : shp t = (shapedB t && shps t.l) := by cases t; rw [shp]; rfl
theorem dpts_snoc (x : V) : ∀ (xs : List V), dpts (xs ++ [x]) = max (dpts xs) (dpt x)
  | [] => by simp [dpts_nil, dpts_cons]
  | y :: xs => by rw [List.cons_append, dpts_cons, dpts_cons, dpts_snoc x xs]; omega
theorem cnts_snoc (x : V) : ∀ (xs : List V), cnts (xs ++ [x]) = cnts xs + cnt x
  | [] => by simp [cnts_nil, cnts_cons]
  | y :: xs => by rw [List.cons_append, cnts_cons, cnts_cons, cnts_snoc x xs]; omega
theorem shps_snoc (x : V) : ∀ (xs : List V), shps (xs ++ [x]) = (shps xs && shp x)
  | [] => by simp [shps_nil, shps_cons]
  | y :: xs => by rw [List.cons_append, shps_cons, shps_cons, shps_snoc x xs, Bool.and_assoc]
theorem take_snocV {xs : List V} {k : Nat} (h : k < xs.length) : xs.take (k + 1) = xs.take k ++ [xs[k]] := List.take_succ_eq_append_getElem h
theorem cnts_take {xs : List V} (k : Nat) : cnts (xs.take k) ≤ cnts xs := by
  induction xs generalizing k with
  | nil => simp [cnts_nil]
  | cons x xs ih =>
    cases k with
    | zero => simp [cnts_nil]
    | succ k => rw [List.take_succ_cons, cnts_cons, cnts_cons]; have := ih k; omega
theorem dpts_mem {xs : List V} {x : V} (h : x ∈ xs) : dpt x ≤ dpts xs := by
  induction xs with
  | nil => cases h
  | cons y xs ih =>
    rw [dpts_cons]
    rcases List.mem_cons.1 h with rfl | h
    · omega
    · have := ih h; omega
theorem dpts_le {xs : List V} {D : Nat} (h : ∀ x ∈ xs, dpt x ≤ D) : dpts xs ≤ D := by
  induction xs with
  | nil => simp [dpts_nil]
  | cons y xs ih =>
    rw [dpts_cons]
    have h1 := h y (by simp)
    have h2 := ih fun x hx => h x (by simp [hx])
    omega
theorem shps_iff {xs : List V} : shps xs = true ↔ ∀ x ∈ xs, shp x = true := by
  induction xs with
  | nil => simp [shps_nil]
  | cons y xs ih => rw [shps_cons, Bool.and_eq_true, ih]; simp
theorem dpts_cnt_of : ∀ (l : List V), (∀ x ∈ l, dpt x ≤ cnt x) → dpts l ≤ cnts l
  | [], _ => by simp [dpts_nil, cnts_nil]
  | x :: l, h => by
    rw [dpts_cons, cnts_cons]
    have h1 := h x (by simp)
    have h2 := dpts_cnt_of l fun y hy => h y (by simp [hy])
    omega
theorem dpt_cnt : ∀ (t : V), dpt t ≤ cnt t
  | ⟨k, n, s, ks, l⟩ => by
    rw [dpt_eq, cnt_eq]
    have h : ∀ x ∈ l, dpt x ≤ cnt x := fun x hx => dpt_cnt x
    have := dpts_cnt_of l h
    simp only
    omega
theorem dpts_cnt (l : List V) : dpts l ≤ cnts l := dpts_cnt_of l fun x _ => dpt_cnt x
theorem goodT_iff (D : Nat) : ∀ (t : V), GoodT D t ↔ shp t = true ∧ dpt t ≤ D := by
  induction D with
  | zero => intro t; rw [dpt_eq]; simp [GoodT]
  | succ D ih =>
    intro t
    rw [shp_eq, dpt_eq, Bool.and_eq_true, shps_iff]
    constructor
    · rintro ⟨h1, h2⟩
      refine ⟨⟨h1, fun x hx => ((ih x).1 (h2 x hx)).1⟩, ?_⟩
      have := dpts_le (D := D) fun x hx => ((ih x).1 (h2 x hx)).2
      omega
    · rintro ⟨⟨h1, h2⟩, h3⟩
      exact ⟨h1, fun x hx => (ih x).2 ⟨h2 x hx, by have := dpts_mem hx; omega⟩⟩
/- What GoodValue answers is what Good answers. -/
theorem good_ref (t : V) : (decide (dpt t ≤ 12) && decide (cnt t ≤ 120) && shp t) = goodV t := by
  rw [Bool.eq_iff_iff, good_iff, goodT_iff]
  simp only [Bool.and_eq_true, decide_eq_true_eq]
  constructor
  · rintro ⟨⟨h1, h2⟩, h3⟩
    exact ⟨⟨h3, h1⟩, by rw [← cnt_sz 12 t ((goodT_iff 12 t).2 ⟨h3, h1⟩)]; exact h2⟩
  · rintro ⟨⟨h3, h1⟩, h2⟩
    exact ⟨⟨h1, by rw [cnt_sz 12 t ((goodT_iff 12 t).2 ⟨h3, h1⟩)]; exact h2⟩, h3⟩
end Go.Proofs.YtaifciobaapehaaDoor

/- What ascii of package stairwellref does. -/
set_option linter.unusedSimpArgs false
set_option linter.unusedVariables false
namespace Go.Proofs.YtaifciobaapehaaDoor
open Go.RowKit

/- The bytes of a text, as a list of their own. -/
theorem bytes_of (w : World) (s : List UInt8) (hs : s.length ≤ 9223372036854775807) :
    ∃ cap W2, (convert 9 94 (.string ⟨s.toArray⟩)).run Tryd.prog w = .ok (.slice (some ⟨w.heap.size, 0, none⟩) s.length cap) W2 ∧ s.length ≤ cap ∧ cap ≤ 9223372036854775807 ∧
      (∀ (j : Nat) (h : j < s.length), W2.cell? ⟨w.heap.size, j, none⟩ = some (.int .u8 (s[j].toNat : Int))) ∧ ∃ os, W2 = Go.Sort.grow (w.drewN 1) os := by
  have h := run_bytes_of_string (P := Tryd.prog) w 9 94 5 ⟨s.toArray⟩ Tryd.underlying9 Tryd.underlying94 Tryd.underlying5
  have hz : (ByteArray.mk s.toArray).size = s.length := by simp [ByteArray.size]
  rw [hz] at h
  refine ⟨_, _, h, grownCap_ge _ _ _ _, grownCap_le_maxLen _ _ _ _ hs, ?_, ?_⟩
  · intro j hj
    have hb : (w.drew.alloc (.cells (bytesRow ⟨s.toArray⟩ (grownCap w s.length 0 5)) 5 ((bytesRow ⟨s.toArray⟩ (grownCap w s.length 0 5)).size, (bytesRow ⟨s.toArray⟩ (grownCap w s.length 0 5)).size + 1))).heap[w.heap.size]? = some (.cells (bytesRow ⟨s.toArray⟩ (grownCap w s.length 0 5)) 5 ((bytesRow ⟨s.toArray⟩ (grownCap w s.length 0 5)).size, (bytesRow ⟨s.toArray⟩ (grownCap w s.length 0 5)).size + 1)) := heap_alloc_new w.drew _
    have hr := bytesRow_at ⟨s.toArray⟩ (grownCap w s.length 0 5) j (by simpa using hj)
    simp only [World.cell?, hb]
    simpa using hr
  · exact ⟨_, Go.Sort.alloc_eq_grow w.drew _⟩
theorem bel_grow (w : World) (n : Nat) (os : Array Obj) : Below w.heap.size w (Go.Sort.grow (w.drewN n) os) := by
  refine ⟨rfl, rfl, rfl, by simp [Go.Sort.grow, World.drewN], fun k hk => ?_⟩
  show (w.heap ++ os)[k]? = w.heap[k]?
  rw [Array.getElem?_append_left hk]
theorem plain_eq (s : List UInt8) : plainB s = (decide (s.length ≤ 60) && s.all fun c => decide (c.toNat < 128)) := rfl

set_option maxRecDepth 100000 in
set_option maxHeartbeats 8000000 in
theorem ascii_gr (w : World) (s : List UInt8) (hs : s.length ≤ 9223372036854775807) :
    Calls Tryd.prog 68 #[str s] w fun e w' => e = .returned (.bool (plainB s)) ∧ ∃ q os, w' = Go.Sort.grow (w.drewN q) os := by
  unfold str
  obtain ⟨cap, W2, hcv, h1, h2, h3, h4⟩ := bytes_of w s hs
  have HC := hidI h3
  have HB : Hid (∃ q os, W2 = Go.Sort.grow (w.drewN q) os) := hidI ⟨1, h4⟩
  clear h3 h4
  go_enter Tryd.func68, Tryd.ntmps68
  go_wp2_with fail
  clear hcv
  go_loop [8] (fun i => ∃ k : Nat, k ≤ s.length ∧ i = .int .i64 k ∧ Hid ((s.take k).all (fun c => decide (c.toNat < 128)) = true)) (fun i => s.length - (intOf i).toNat)
  case atStart => exact ⟨0, Nat.zero_le _, rfl, hidI rfl⟩
  case round =>
    obtain ⟨k, hk, rfl, HA⟩ := hrel
    by_cases hlt : k < s.length
    · have c0 := HC.out k hlt
      have w1 : (0 : Int) ≤ (k : Int) := by omega
      have w2 : (k : Int) < (s.length : Int) := by omega
      by_cases hc : s[k].toNat < 128
      · have c1 : ¬ (127 : Int) < (s[k].toNat : Int) := by omega
        have HN : Hid ((s.take (k + 1)).all (fun c => decide (c.toNat < 128)) = true) := hidI (by
          rw [List.take_succ_eq_append_getElem hlt, List.all_append, HA.out]
          simp [hc])
        clear hc
        go_wp2_with fail
        go_round
        case rel => exact ⟨k + 1, by omega, by go_num, HN⟩
        case measure => simp [intOf]; omega
      · have c1 : (127 : Int) < (s[k].toNat : Int) := by omega
        have HF : Hid (plainB s = false) := hidI (by
          rw [plain_eq, Bool.and_eq_false_iff]
          right
          rw [List.all_eq_false]
          exact ⟨s[k], List.getElem_mem hlt, by simp; omega⟩)
        clear hc
        go_wp2_with fail
        go_ret
        exact ⟨by rw [HF.out]; rfl, HB.out⟩
    · have l1 : s.take k = s := List.take_of_length_le (by omega)
      rw [l1] at HA
      have d1 : ¬ (k : Int) < (s.length : Int) := by omega
      by_cases h60 : s.length ≤ 60
      · have h61 : (s.length : Int) ≤ 60 := by omega
        have HF : Hid (plainB s = true) := hidI (by rw [plain_eq, HA.out]; simp [h60])
        clear l1 h60
        go_wp2_with fail
        go_ret
        exact ⟨by rw [HF.out]; rfl, HB.out⟩
      · have h61 : ¬ (s.length : Int) ≤ 60 := by omega
        have HF : Hid (plainB s = false) := hidI (by rw [plain_eq]; simp [h60])
        clear l1 h60
        go_wp2_with fail
        go_ret
        exact ⟨by rw [HF.out]; rfl, HB.out⟩
theorem ascii_at (w : World) (s : List UInt8) (hs : s.length ≤ 9223372036854775807) :
    Calls Tryd.prog 68 #[str s] w fun e w' => e = .returned (.bool (plainB s)) ∧ Below w.heap.size w w' :=
  (ascii_gr w s hs).mono fun e w' ⟨h1, q, os, h2⟩ => ⟨h1, by rw [h2]; exact bel_grow w q os⟩
end Go.Proofs.YtaifciobaapehaaDoor

/- What shaped of package stairwellref does. -/
set_option linter.unusedSimpArgs false
set_option linter.unusedVariables false
namespace Go.Proofs.YtaifciobaapehaaDoor
open Go.RowKit
attribute [local go_sem ↓] Go.wp_at_zero Go.wp_at_succ

def ShpC (d : Nat) : Prop := ∀ (w : World) (ok : Nat → Prop) (t : V) (v : Value), VIs w ok d t v →
    Calls Tryd.prog 48 #[v] w fun e w' => e = .returned (.bool (shp t)) ∧ Below w.heap.size w w'
theorem shaped_five {t : V} (hk : t.kind = 5) : shapedB t = (decide (t.n = 0) && decide (t.s = []) && decide (t.keys.length = t.l.length) && riseFrom none t.keys) := by simp [shapedB, hk]

set_option maxRecDepth 100000 in
set_option maxHeartbeats 40000000 in
theorem rshaped_k0 (d : Nat) (ih : ShpC d) (w : World) (ok : Nat → Prop) (t : V) (v : Value) (h : VIs w ok (d + 1) t v) (hk : t.kind = 0) :
    Calls Tryd.prog 48 #[v] w fun e w' => e = .returned (.bool (shp t)) ∧ Below w.heap.size w w' := by
  have IH := hidI ih
  obtain ⟨a1, a2, c1, c2, rfl⟩ := h.shape
  have VV : Hid (ValsAre w ok (VIs w ok d) t.l (.slice a2 t.l.length c2) ∧ StrsAre w ok t.keys (.slice a1 t.keys.length c1) ∧ t.s.length ≤ 9223372036854775807) := hidI (by
    obtain ⟨ks, ls, e, h1, h2, h3, h4, h5⟩ := h
    simp only [Value.agg.injEq, Array.mk.injEq, List.cons.injEq, and_true] at e
    obtain ⟨-, -, -, rfl, rfl⟩ := e
    exact ⟨h5, h4, h3⟩)
  have ll : t.l.length ≤ 9223372036854775807 := VV.out.1.1
  have lk : t.keys.length ≤ 9223372036854775807 := VV.out.2.1.1
  have B1 := hidI (bel_alloc w (.cells #[.int .i64 t.kind, .int .i64 t.n, .string ⟨t.s.toArray⟩, .slice a1 t.keys.length c1, .slice a2 t.l.length c2] 25))
  have HK := hidI hk
  clear h ih hk
  go_enter Tryd.func48, Tryd.ntmps48
  go_upto_block 0 with fail
  go_cut [3] (fun b wc => b = .bool (shapedB t) ∧ BoxIs wc w.heap.size (.int .i64 t.kind) (.int .i64 t.n) (.string ⟨t.s.toArray⟩) (.slice a1 t.keys.length c1) (.slice a2 t.l.length c2) ∧ Below w.heap.size w wc)
  case first =>
    have hk := HK.out
    have g0 : (t.kind == 0) = true := by simp [hk]
    by_cases hN : t.n = 0
    · have qN : (t.n == 0) = true := by simp [hN]
      by_cases hS : t.s = []
      · have qS : (t.s == []) = true := by simp [hS]
        by_cases hK : t.keys.length = 0
        · have qK : ((t.keys.length : Int) == 0) = true := by simp [hK]
          by_cases hL : t.l.length = 0
          · have qL : ((t.l.length : Int) == 0) = true := by simp [hL]
            have HR : Hid (shapedB t = true) := hidI (by simp [shapedB, listlessB, hk, hN, hS, hK, hL])
            clear hk hN hS hK hL
            go_wp2_with fail
            go_meet
            case rel => exact ⟨by rw [HR.out], ⟨heap_alloc_new w _, B1.out⟩⟩
          · have qL : ((t.l.length : Int) == 0) = false := by rw [beq_eq_false_iff_ne]; omega
            have HR : Hid (shapedB t = false) := hidI (by simp [shapedB, listlessB, hk, hN, hS, hK, hL])
            clear hk hN hS hK hL
            go_wp2_with fail
            go_meet
            case rel => exact ⟨by rw [HR.out], ⟨heap_alloc_new w _, B1.out⟩⟩
        · have qK : ((t.keys.length : Int) == 0) = false := by rw [beq_eq_false_iff_ne]; omega
          have HR : Hid (shapedB t = false) := hidI (by simp [shapedB, listlessB, hk, hN, hS, hK])
          clear hk hN hS hK
          go_wp2_with fail
          go_meet
          case rel => exact ⟨by rw [HR.out], ⟨heap_alloc_new w _, B1.out⟩⟩
      · have qS : (t.s == []) = false := by simp [hS]
        have HR : Hid (shapedB t = false) := hidI (by simp [shapedB, listlessB, hk, hN, hS])
        clear hk hN hS
        go_wp2_with fail
        go_meet
        case rel => exact ⟨by rw [HR.out], ⟨heap_alloc_new w _, B1.out⟩⟩
    · have qN : (t.n == 0) = false := by simp [hN]
      have HR : Hid (shapedB t = false) := hidI (by simp [shapedB, listlessB, hk, hN])
      clear hk hN
      go_wp2_with fail
      go_meet
      case rel => exact ⟨by rw [HR.out], ⟨heap_alloc_new w _, B1.out⟩⟩
  case rest =>
    obtain ⟨rfl, hc⟩ := hcut
    have C0 := hidI hc
    have HSP := hidI (shp_eq t)
    obtain ⟨y0, y1, y2, y3, y4, -⟩ := hc.1.c
    obtain ⟨o0, ho0⟩ : ∃ o, shapedB t = o := ⟨_, rfl⟩
    rw [ho0]
    have O0 := hidI ho0
    clear hc ho0
    go_wp2_with fail
    go_loopg [3, 179] t.l.length (fun gk b i wr => ∃ (k : Nat), k ≤ t.l.length ∧ gk = t.l.length - k ∧ i = .int .i64 k ∧ b = .bool (o0 && shps (t.l.take k)) ∧ Below w.heap.size w wr)
    case atStart => exact ⟨0, Nat.zero_le _, rfl, rfl, by simp [shps], C0.out.2⟩
    case round =>
      obtain ⟨k, hk, hgk, rfl, rfl, hb⟩ := hrel
      have GK := hidI hgk
      have HB := hidI hb
      clear hgk hb
      by_cases hlt : k < t.l.length
      · obtain ⟨b, off, rfl, z1, z2, a5, c5, a6, c6, p0, p1, p2, p3, p4, p5⟩ := vals_at VV.out.1 hlt
        unfold maxLen at z2
        replace p0 := cell_bel HB.out p0
        replace p1 := cell_bel HB.out p1
        replace p2 := cell_bel HB.out p2
        replace p3 := cell_bel HB.out p3
        replace p4 := cell_bel HB.out p4
        have P5 := hidI (p5.bel HB.out)
        have w1 : (0 : Int) ≤ (k : Int) := by omega
        have w2 : (k : Int) < (t.l.length : Int) := by omega
        have e1 : Hid (shps (t.l.take (k + 1)) = (shps (t.l.take k) && shp t.l[k])) := hidI (by rw [take_snocV hlt, shps_snoc])
        clear p5
        cases hoo : (o0 && shps (t.l.take k)) with
        | false =>
          have HN : Hid ((o0 && shps (t.l.take (k + 1))) = false) := hidI (by rw [e1.out, ← Bool.and_assoc, hoo]; rfl)
          clear hoo
          go_wp2_with fail
          go_roundg (t.l.length - (k + 1))
          case measure => rw [GK.out]; omega
          case rel => exact ⟨k + 1, hlt, rfl, by go_num, by rw [HN.out], bel_trans HB.out (bel_alloc _ _)⟩
        | true =>
          have HN : Hid ((o0 && shps (t.l.take (k + 1))) = shp t.l[k]) := hidI (by rw [e1.out, ← Bool.and_assoc, hoo]; rfl)
          clear hoo
          go_wp2_with fail
          refine (IH.out _ ok t.l[k] _ (by exact P5.out.bel (bel_alloc _ _))).mono ?_
          rintro e w4 ⟨rfl, hb4⟩
          have HB4 := hidI (bel_trans HB.out (bel_trans (bel_alloc _ _) hb4))
          clear hb4 p0 p1 p2 p3 p4
          go_wp2_with fail
          go_roundg (t.l.length - (k + 1))
          case measure => rw [GK.out]; omega
          case rel => exact ⟨k + 1, hlt, rfl, by go_num, by rw [HN.out], HB4.out⟩
      · have l1 : t.l.take k = t.l := List.take_of_length_le (by omega)
        have d1 : ¬ (k : Int) < (t.l.length : Int) := by omega
        rw [l1]
        have HF : Hid (shp t = (o0 && shps t.l)) := hidI (by rw [HSP.out, O0.out])
        clear l1
        go_wp2_with fail
        go_ret
        exact ⟨by rw [HF.out]; rfl, HB.out⟩
set_option maxRecDepth 100000 in
set_option maxHeartbeats 40000000 in
theorem rshaped_k1 (d : Nat) (ih : ShpC d) (w : World) (ok : Nat → Prop) (t : V) (v : Value) (h : VIs w ok (d + 1) t v) (hk : t.kind = 1) :
    Calls Tryd.prog 48 #[v] w fun e w' => e = .returned (.bool (shp t)) ∧ Below w.heap.size w w' := by
  have IH := hidI ih
  obtain ⟨a1, a2, c1, c2, rfl⟩ := h.shape
  have VV : Hid (ValsAre w ok (VIs w ok d) t.l (.slice a2 t.l.length c2) ∧ StrsAre w ok t.keys (.slice a1 t.keys.length c1) ∧ t.s.length ≤ 9223372036854775807) := hidI (by
    obtain ⟨ks, ls, e, h1, h2, h3, h4, h5⟩ := h
    simp only [Value.agg.injEq, Array.mk.injEq, List.cons.injEq, and_true] at e
    obtain ⟨-, -, -, rfl, rfl⟩ := e
    exact ⟨h5, h4, h3⟩)
  have ll : t.l.length ≤ 9223372036854775807 := VV.out.1.1
  have lk : t.keys.length ≤ 9223372036854775807 := VV.out.2.1.1
  have B1 := hidI (bel_alloc w (.cells #[.int .i64 t.kind, .int .i64 t.n, .string ⟨t.s.toArray⟩, .slice a1 t.keys.length c1, .slice a2 t.l.length c2] 25))
  have HK := hidI hk
  clear h ih hk
  go_enter Tryd.func48, Tryd.ntmps48
  go_upto_block 0 with fail
  go_cut [3] (fun b wc => b = .bool (shapedB t) ∧ BoxIs wc w.heap.size (.int .i64 t.kind) (.int .i64 t.n) (.string ⟨t.s.toArray⟩) (.slice a1 t.keys.length c1) (.slice a2 t.l.length c2) ∧ Below w.heap.size w wc)
  case first =>
    have hk := HK.out
    have f0 : (t.kind == 0) = false := by simp [hk]
    have g1 : (t.kind == 1) = true := by simp [hk]
    by_cases hN : t.n = 0
    · have qN : (t.n == 0) = true := by simp [hN]
      by_cases hS : t.s = []
      · have qS : (t.s == []) = true := by simp [hS]
        by_cases hK : t.keys.length = 0
        · have qK : ((t.keys.length : Int) == 0) = true := by simp [hK]
          by_cases hL : t.l.length = 0
          · have qL : ((t.l.length : Int) == 0) = true := by simp [hL]
            have HR : Hid (shapedB t = true) := hidI (by simp [shapedB, listlessB, hk, hN, hS, hK, hL])
            clear hk hN hS hK hL
            go_wp2_with fail
            go_meet
            case rel => exact ⟨by rw [HR.out], ⟨heap_alloc_new w _, B1.out⟩⟩
          · have qL : ((t.l.length : Int) == 0) = false := by rw [beq_eq_false_iff_ne]; omega
            have HR : Hid (shapedB t = false) := hidI (by simp [shapedB, listlessB, hk, hN, hS, hK, hL])
            clear hk hN hS hK hL
            go_wp2_with fail
            go_meet
            case rel => exact ⟨by rw [HR.out], ⟨heap_alloc_new w _, B1.out⟩⟩
        · have qK : ((t.keys.length : Int) == 0) = false := by rw [beq_eq_false_iff_ne]; omega
          have HR : Hid (shapedB t = false) := hidI (by simp [shapedB, listlessB, hk, hN, hS, hK])
          clear hk hN hS hK
          go_wp2_with fail
          go_meet
          case rel => exact ⟨by rw [HR.out], ⟨heap_alloc_new w _, B1.out⟩⟩
      · have qS : (t.s == []) = false := by simp [hS]
        have HR : Hid (shapedB t = false) := hidI (by simp [shapedB, listlessB, hk, hN, hS])
        clear hk hN hS
        go_wp2_with fail
        go_meet
        case rel => exact ⟨by rw [HR.out], ⟨heap_alloc_new w _, B1.out⟩⟩
    · have qN : (t.n == 0) = false := by simp [hN]
      by_cases hO : t.n = 1
      · have qO : (t.n == 1) = true := by simp [hO]
        by_cases hS : t.s = []
        · have qS : (t.s == []) = true := by simp [hS]
          by_cases hK : t.keys.length = 0
          · have qK : ((t.keys.length : Int) == 0) = true := by simp [hK]
            by_cases hL : t.l.length = 0
            · have qL : ((t.l.length : Int) == 0) = true := by simp [hL]
              have HR : Hid (shapedB t = true) := hidI (by simp [shapedB, listlessB, hk, hN, hO, hS, hK, hL])
              clear hk hN hO hS hK hL
              go_wp2_with fail
              go_meet
              case rel => exact ⟨by rw [HR.out], ⟨heap_alloc_new w _, B1.out⟩⟩
            · have qL : ((t.l.length : Int) == 0) = false := by rw [beq_eq_false_iff_ne]; omega
              have HR : Hid (shapedB t = false) := hidI (by simp [shapedB, listlessB, hk, hN, hO, hS, hK, hL])
              clear hk hN hO hS hK hL
              go_wp2_with fail
              go_meet
              case rel => exact ⟨by rw [HR.out], ⟨heap_alloc_new w _, B1.out⟩⟩
          · have qK : ((t.keys.length : Int) == 0) = false := by rw [beq_eq_false_iff_ne]; omega
            have HR : Hid (shapedB t = false) := hidI (by simp [shapedB, listlessB, hk, hN, hO, hS, hK])
            clear hk hN hO hS hK
            go_wp2_with fail
            go_meet
            case rel => exact ⟨by rw [HR.out], ⟨heap_alloc_new w _, B1.out⟩⟩
        · have qS : (t.s == []) = false := by simp [hS]
          have HR : Hid (shapedB t = false) := hidI (by simp [shapedB, listlessB, hk, hN, hO, hS])
          clear hk hN hO hS
          go_wp2_with fail
          go_meet
          case rel => exact ⟨by rw [HR.out], ⟨heap_alloc_new w _, B1.out⟩⟩
      · have qO : (t.n == 1) = false := by simp [hO]
        have HR : Hid (shapedB t = false) := hidI (by simp [shapedB, listlessB, hk, hN, hO])
        clear hk hN hO
        go_wp2_with fail
        go_meet
        case rel => exact ⟨by rw [HR.out], ⟨heap_alloc_new w _, B1.out⟩⟩
  case rest =>
    obtain ⟨rfl, hc⟩ := hcut
    have C0 := hidI hc
    have HSP := hidI (shp_eq t)
    obtain ⟨y0, y1, y2, y3, y4, -⟩ := hc.1.c
    obtain ⟨o0, ho0⟩ : ∃ o, shapedB t = o := ⟨_, rfl⟩
    rw [ho0]
    have O0 := hidI ho0
    clear hc ho0
    go_wp2_with fail
    go_loopg [3, 179] t.l.length (fun gk b i wr => ∃ (k : Nat), k ≤ t.l.length ∧ gk = t.l.length - k ∧ i = .int .i64 k ∧ b = .bool (o0 && shps (t.l.take k)) ∧ Below w.heap.size w wr)
    case atStart => exact ⟨0, Nat.zero_le _, rfl, rfl, by simp [shps], C0.out.2⟩
    case round =>
      obtain ⟨k, hk, hgk, rfl, rfl, hb⟩ := hrel
      have GK := hidI hgk
      have HB := hidI hb
      clear hgk hb
      by_cases hlt : k < t.l.length
      · obtain ⟨b, off, rfl, z1, z2, a5, c5, a6, c6, p0, p1, p2, p3, p4, p5⟩ := vals_at VV.out.1 hlt
        unfold maxLen at z2
        replace p0 := cell_bel HB.out p0
        replace p1 := cell_bel HB.out p1
        replace p2 := cell_bel HB.out p2
        replace p3 := cell_bel HB.out p3
        replace p4 := cell_bel HB.out p4
        have P5 := hidI (p5.bel HB.out)
        have w1 : (0 : Int) ≤ (k : Int) := by omega
        have w2 : (k : Int) < (t.l.length : Int) := by omega
        have e1 : Hid (shps (t.l.take (k + 1)) = (shps (t.l.take k) && shp t.l[k])) := hidI (by rw [take_snocV hlt, shps_snoc])
        clear p5
        cases hoo : (o0 && shps (t.l.take k)) with
        | false =>
          have HN : Hid ((o0 && shps (t.l.take (k + 1))) = false) := hidI (by rw [e1.out, ← Bool.and_assoc, hoo]; rfl)
          clear hoo
          go_wp2_with fail
          go_roundg (t.l.length - (k + 1))
          case measure => rw [GK.out]; omega
          case rel => exact ⟨k + 1, hlt, rfl, by go_num, by rw [HN.out], bel_trans HB.out (bel_alloc _ _)⟩
        | true =>
          have HN : Hid ((o0 && shps (t.l.take (k + 1))) = shp t.l[k]) := hidI (by rw [e1.out, ← Bool.and_assoc, hoo]; rfl)
          clear hoo
          go_wp2_with fail
          refine (IH.out _ ok t.l[k] _ (by exact P5.out.bel (bel_alloc _ _))).mono ?_
          rintro e w4 ⟨rfl, hb4⟩
          have HB4 := hidI (bel_trans HB.out (bel_trans (bel_alloc _ _) hb4))
          clear hb4 p0 p1 p2 p3 p4
          go_wp2_with fail
          go_roundg (t.l.length - (k + 1))
          case measure => rw [GK.out]; omega
          case rel => exact ⟨k + 1, hlt, rfl, by go_num, by rw [HN.out], HB4.out⟩
      · have l1 : t.l.take k = t.l := List.take_of_length_le (by omega)
        have d1 : ¬ (k : Int) < (t.l.length : Int) := by omega
        rw [l1]
        have HF : Hid (shp t = (o0 && shps t.l)) := hidI (by rw [HSP.out, O0.out])
        clear l1
        go_wp2_with fail
        go_ret
        exact ⟨by rw [HF.out]; rfl, HB.out⟩
set_option maxRecDepth 100000 in
set_option maxHeartbeats 40000000 in
theorem rshaped_k2 (d : Nat) (ih : ShpC d) (w : World) (ok : Nat → Prop) (t : V) (v : Value) (h : VIs w ok (d + 1) t v) (hk : t.kind = 2) :
    Calls Tryd.prog 48 #[v] w fun e w' => e = .returned (.bool (shp t)) ∧ Below w.heap.size w w' := by
  have IH := hidI ih
  obtain ⟨a1, a2, c1, c2, rfl⟩ := h.shape
  have VV : Hid (ValsAre w ok (VIs w ok d) t.l (.slice a2 t.l.length c2) ∧ StrsAre w ok t.keys (.slice a1 t.keys.length c1) ∧ t.s.length ≤ 9223372036854775807) := hidI (by
    obtain ⟨ks, ls, e, h1, h2, h3, h4, h5⟩ := h
    simp only [Value.agg.injEq, Array.mk.injEq, List.cons.injEq, and_true] at e
    obtain ⟨-, -, -, rfl, rfl⟩ := e
    exact ⟨h5, h4, h3⟩)
  have ll : t.l.length ≤ 9223372036854775807 := VV.out.1.1
  have lk : t.keys.length ≤ 9223372036854775807 := VV.out.2.1.1
  have B1 := hidI (bel_alloc w (.cells #[.int .i64 t.kind, .int .i64 t.n, .string ⟨t.s.toArray⟩, .slice a1 t.keys.length c1, .slice a2 t.l.length c2] 25))
  have HK := hidI hk
  clear h ih hk
  go_enter Tryd.func48, Tryd.ntmps48
  go_upto_block 0 with fail
  go_cut [3] (fun b wc => b = .bool (shapedB t) ∧ BoxIs wc w.heap.size (.int .i64 t.kind) (.int .i64 t.n) (.string ⟨t.s.toArray⟩) (.slice a1 t.keys.length c1) (.slice a2 t.l.length c2) ∧ Below w.heap.size w wc)
  case first =>
    have hk := HK.out
    have f0 : (t.kind == 0) = false := by simp [hk]
    have f1 : (t.kind == 1) = false := by simp [hk]
    have g2 : (t.kind == 2) = true := by simp [hk]
    by_cases hA : -9007199254740992 ≤ t.n
    · have qA : -9007199254740992 ≤ t.n := by exact hA
      by_cases hB : t.n ≤ 9007199254740992
      · have qB : t.n ≤ 9007199254740992 := by exact hB
        by_cases hS : t.s = []
        · have qS : (t.s == []) = true := by simp [hS]
          by_cases hK : t.keys.length = 0
          · have qK : ((t.keys.length : Int) == 0) = true := by simp [hK]
            by_cases hL : t.l.length = 0
            · have qL : ((t.l.length : Int) == 0) = true := by simp [hL]
              have HR : Hid (shapedB t = true) := hidI (by simp [shapedB, listlessB, hk, hA, hB, hS, hK, hL])
              clear hk hA hB hS hK hL
              go_wp2_with fail
              go_meet
              case rel => exact ⟨by rw [HR.out], ⟨heap_alloc_new w _, B1.out⟩⟩
            · have qL : ((t.l.length : Int) == 0) = false := by rw [beq_eq_false_iff_ne]; omega
              have HR : Hid (shapedB t = false) := hidI (by simp [shapedB, listlessB, hk, hA, hB, hS, hK, hL])
              clear hk hA hB hS hK hL
              go_wp2_with fail
              go_meet
              case rel => exact ⟨by rw [HR.out], ⟨heap_alloc_new w _, B1.out⟩⟩
          · have qK : ((t.keys.length : Int) == 0) = false := by rw [beq_eq_false_iff_ne]; omega
            have HR : Hid (shapedB t = false) := hidI (by simp [shapedB, listlessB, hk, hA, hB, hS, hK])
            clear hk hA hB hS hK
            go_wp2_with fail
            go_meet
            case rel => exact ⟨by rw [HR.out], ⟨heap_alloc_new w _, B1.out⟩⟩
        · have qS : (t.s == []) = false := by simp [hS]
          have HR : Hid (shapedB t = false) := hidI (by simp [shapedB, listlessB, hk, hA, hB, hS])
          clear hk hA hB hS
          go_wp2_with fail
          go_meet
          case rel => exact ⟨by rw [HR.out], ⟨heap_alloc_new w _, B1.out⟩⟩
      · have qB : ¬ t.n ≤ 9007199254740992 := by exact hB
        have HR : Hid (shapedB t = false) := hidI (by simp [shapedB, listlessB, hk, hA, hB])
        clear hk hA hB
        go_wp2_with fail
        go_meet
        case rel => exact ⟨by rw [HR.out], ⟨heap_alloc_new w _, B1.out⟩⟩
    · have qA : ¬ -9007199254740992 ≤ t.n := by exact hA
      have HR : Hid (shapedB t = false) := hidI (by simp [shapedB, listlessB, hk, hA])
      clear hk hA
      go_wp2_with fail
      go_meet
      case rel => exact ⟨by rw [HR.out], ⟨heap_alloc_new w _, B1.out⟩⟩
  case rest =>
    obtain ⟨rfl, hc⟩ := hcut
    have C0 := hidI hc
    have HSP := hidI (shp_eq t)
    obtain ⟨y0, y1, y2, y3, y4, -⟩ := hc.1.c
    obtain ⟨o0, ho0⟩ : ∃ o, shapedB t = o := ⟨_, rfl⟩
    rw [ho0]
    have O0 := hidI ho0
    clear hc ho0
    go_wp2_with fail
    go_loopg [3, 179] t.l.length (fun gk b i wr => ∃ (k : Nat), k ≤ t.l.length ∧ gk = t.l.length - k ∧ i = .int .i64 k ∧ b = .bool (o0 && shps (t.l.take k)) ∧ Below w.heap.size w wr)
    case atStart => exact ⟨0, Nat.zero_le _, rfl, rfl, by simp [shps], C0.out.2⟩
    case round =>
      obtain ⟨k, hk, hgk, rfl, rfl, hb⟩ := hrel
      have GK := hidI hgk
      have HB := hidI hb
      clear hgk hb
      by_cases hlt : k < t.l.length
      · obtain ⟨b, off, rfl, z1, z2, a5, c5, a6, c6, p0, p1, p2, p3, p4, p5⟩ := vals_at VV.out.1 hlt
        unfold maxLen at z2
        replace p0 := cell_bel HB.out p0
        replace p1 := cell_bel HB.out p1
        replace p2 := cell_bel HB.out p2
        replace p3 := cell_bel HB.out p3
        replace p4 := cell_bel HB.out p4
        have P5 := hidI (p5.bel HB.out)
        have w1 : (0 : Int) ≤ (k : Int) := by omega
        have w2 : (k : Int) < (t.l.length : Int) := by omega
        have e1 : Hid (shps (t.l.take (k + 1)) = (shps (t.l.take k) && shp t.l[k])) := hidI (by rw [take_snocV hlt, shps_snoc])
        clear p5
        cases hoo : (o0 && shps (t.l.take k)) with
        | false =>
          have HN : Hid ((o0 && shps (t.l.take (k + 1))) = false) := hidI (by rw [e1.out, ← Bool.and_assoc, hoo]; rfl)
          clear hoo
          go_wp2_with fail
          go_roundg (t.l.length - (k + 1))
          case measure => rw [GK.out]; omega
          case rel => exact ⟨k + 1, hlt, rfl, by go_num, by rw [HN.out], bel_trans HB.out (bel_alloc _ _)⟩
        | true =>
          have HN : Hid ((o0 && shps (t.l.take (k + 1))) = shp t.l[k]) := hidI (by rw [e1.out, ← Bool.and_assoc, hoo]; rfl)
          clear hoo
          go_wp2_with fail
          refine (IH.out _ ok t.l[k] _ (by exact P5.out.bel (bel_alloc _ _))).mono ?_
          rintro e w4 ⟨rfl, hb4⟩
          have HB4 := hidI (bel_trans HB.out (bel_trans (bel_alloc _ _) hb4))
          clear hb4 p0 p1 p2 p3 p4
          go_wp2_with fail
          go_roundg (t.l.length - (k + 1))
          case measure => rw [GK.out]; omega
          case rel => exact ⟨k + 1, hlt, rfl, by go_num, by rw [HN.out], HB4.out⟩
      · have l1 : t.l.take k = t.l := List.take_of_length_le (by omega)
        have d1 : ¬ (k : Int) < (t.l.length : Int) := by omega
        rw [l1]
        have HF : Hid (shp t = (o0 && shps t.l)) := hidI (by rw [HSP.out, O0.out])
        clear l1
        go_wp2_with fail
        go_ret
        exact ⟨by rw [HF.out]; rfl, HB.out⟩
end Go.Proofs.YtaifciobaapehaaDoor

/- What shaped of package stairwellref does. -/
set_option linter.unusedSimpArgs false
set_option linter.unusedVariables false
namespace Go.Proofs.YtaifciobaapehaaDoor
open Go.RowKit
attribute [local go_sem ↓] Go.wp_at_zero Go.wp_at_succ

set_option maxRecDepth 100000 in
set_option maxHeartbeats 40000000 in
theorem rshaped_k3 (d : Nat) (ih : ShpC d) (w : World) (ok : Nat → Prop) (t : V) (v : Value) (h : VIs w ok (d + 1) t v) (hk : t.kind = 3) :
    Calls Tryd.prog 48 #[v] w fun e w' => e = .returned (.bool (shp t)) ∧ Below w.heap.size w w' := by
  have IH := hidI ih
  obtain ⟨a1, a2, c1, c2, rfl⟩ := h.shape
  have VV : Hid (ValsAre w ok (VIs w ok d) t.l (.slice a2 t.l.length c2) ∧ StrsAre w ok t.keys (.slice a1 t.keys.length c1) ∧ t.s.length ≤ 9223372036854775807) := hidI (by
    obtain ⟨ks, ls, e, h1, h2, h3, h4, h5⟩ := h
    simp only [Value.agg.injEq, Array.mk.injEq, List.cons.injEq, and_true] at e
    obtain ⟨-, -, -, rfl, rfl⟩ := e
    exact ⟨h5, h4, h3⟩)
  have ll : t.l.length ≤ 9223372036854775807 := VV.out.1.1
  have lk : t.keys.length ≤ 9223372036854775807 := VV.out.2.1.1
  have B1 := hidI (bel_alloc w (.cells #[.int .i64 t.kind, .int .i64 t.n, .string ⟨t.s.toArray⟩, .slice a1 t.keys.length c1, .slice a2 t.l.length c2] 25))
  have HK := hidI hk
  clear h ih hk
  go_enter Tryd.func48, Tryd.ntmps48
  go_upto_block 0 with fail
  go_cut [3] (fun b wc => b = .bool (shapedB t) ∧ BoxIs wc w.heap.size (.int .i64 t.kind) (.int .i64 t.n) (.string ⟨t.s.toArray⟩) (.slice a1 t.keys.length c1) (.slice a2 t.l.length c2) ∧ Below w.heap.size w wc)
  case first =>
    have hk := HK.out
    have f0 : (t.kind == 0) = false := by simp [hk]
    have f1 : (t.kind == 1) = false := by simp [hk]
    have f2 : (t.kind == 2) = false := by simp [hk]
    have g3 : (t.kind == 3) = true := by simp [hk]
    by_cases hN : t.n = 0
    · have qN : (t.n == 0) = true := by simp [hN]
      cases hp : plainB t.s with
      | false =>
        have HP := hidI hp
        have HR : Hid (shapedB t = false) := hidI (by simp [shapedB, listlessB, hk, hN, hp])
        clear hk hN hp
        go_wp2_with fail
        refine (ascii_at _ t.s VV.out.2.2).mono ?_
        rintro e w4 ⟨rfl, hb4⟩
        rw [HP.out]
        have K4 : Hid (BoxIs w4 w.heap.size (.int .i64 t.kind) (.int .i64 t.n) (.string ⟨t.s.toArray⟩) (.slice a1 t.keys.length c1) (.slice a2 t.l.length c2) ∧ Below w.heap.size w w4) := hidI ⟨box_bel hb4 (heap_alloc_new w _), bel_trans B1.out hb4⟩
        clear hb4
        obtain ⟨y0, y1, y2, y3, y4, -⟩ := K4.out.1.c
        go_wp2_with fail
        go_meet
        case rel => exact ⟨by rw [HR.out], K4.out⟩
      | true =>
        have HP := hidI hp
        by_cases hK : t.keys.length = 0
        · have qK : ((t.keys.length : Int) == 0) = true := by simp [hK]
          by_cases hL : t.l.length = 0
          · have qL : ((t.l.length : Int) == 0) = true := by simp [hL]
            have HR : Hid (shapedB t = true) := hidI (by simp [shapedB, listlessB, hk, hN, hp, hK, hL])
            clear hk hN hp hK hL
            go_wp2_with fail
            refine (ascii_at _ t.s VV.out.2.2).mono ?_
            rintro e w4 ⟨rfl, hb4⟩
            rw [HP.out]
            have K4 : Hid (BoxIs w4 w.heap.size (.int .i64 t.kind) (.int .i64 t.n) (.string ⟨t.s.toArray⟩) (.slice a1 t.keys.length c1) (.slice a2 t.l.length c2) ∧ Below w.heap.size w w4) := hidI ⟨box_bel hb4 (heap_alloc_new w _), bel_trans B1.out hb4⟩
            clear hb4
            obtain ⟨y0, y1, y2, y3, y4, -⟩ := K4.out.1.c
            go_wp2_with fail
            go_meet
            case rel => exact ⟨by rw [HR.out], K4.out⟩
          · have qL : ((t.l.length : Int) == 0) = false := by rw [beq_eq_false_iff_ne]; omega
            have HR : Hid (shapedB t = false) := hidI (by simp [shapedB, listlessB, hk, hN, hp, hK, hL])
            clear hk hN hp hK hL
            go_wp2_with fail
            refine (ascii_at _ t.s VV.out.2.2).mono ?_
            rintro e w4 ⟨rfl, hb4⟩
            rw [HP.out]
            have K4 : Hid (BoxIs w4 w.heap.size (.int .i64 t.kind) (.int .i64 t.n) (.string ⟨t.s.toArray⟩) (.slice a1 t.keys.length c1) (.slice a2 t.l.length c2) ∧ Below w.heap.size w w4) := hidI ⟨box_bel hb4 (heap_alloc_new w _), bel_trans B1.out hb4⟩
            clear hb4
            obtain ⟨y0, y1, y2, y3, y4, -⟩ := K4.out.1.c
            go_wp2_with fail
            go_meet
            case rel => exact ⟨by rw [HR.out], K4.out⟩
        · have qK : ((t.keys.length : Int) == 0) = false := by rw [beq_eq_false_iff_ne]; omega
          have HR : Hid (shapedB t = false) := hidI (by simp [shapedB, listlessB, hk, hN, hp, hK])
          clear hk hN hp hK
          go_wp2_with fail
          refine (ascii_at _ t.s VV.out.2.2).mono ?_
          rintro e w4 ⟨rfl, hb4⟩
          rw [HP.out]
          have K4 : Hid (BoxIs w4 w.heap.size (.int .i64 t.kind) (.int .i64 t.n) (.string ⟨t.s.toArray⟩) (.slice a1 t.keys.length c1) (.slice a2 t.l.length c2) ∧ Below w.heap.size w w4) := hidI ⟨box_bel hb4 (heap_alloc_new w _), bel_trans B1.out hb4⟩
          clear hb4
          obtain ⟨y0, y1, y2, y3, y4, -⟩ := K4.out.1.c
          go_wp2_with fail
          go_meet
          case rel => exact ⟨by rw [HR.out], K4.out⟩
    · have qN : (t.n == 0) = false := by simp [hN]
      have HR : Hid (shapedB t = false) := hidI (by simp [shapedB, listlessB, hk, hN])
      clear hk hN
      go_wp2_with fail
      go_meet
      case rel => exact ⟨by rw [HR.out], ⟨heap_alloc_new w _, B1.out⟩⟩
  case rest =>
    obtain ⟨rfl, hc⟩ := hcut
    have C0 := hidI hc
    have HSP := hidI (shp_eq t)
    obtain ⟨y0, y1, y2, y3, y4, -⟩ := hc.1.c
    obtain ⟨o0, ho0⟩ : ∃ o, shapedB t = o := ⟨_, rfl⟩
    rw [ho0]
    have O0 := hidI ho0
    clear hc ho0
    go_wp2_with fail
    go_loopg [3, 179] t.l.length (fun gk b i wr => ∃ (k : Nat), k ≤ t.l.length ∧ gk = t.l.length - k ∧ i = .int .i64 k ∧ b = .bool (o0 && shps (t.l.take k)) ∧ Below w.heap.size w wr)
    case atStart => exact ⟨0, Nat.zero_le _, rfl, rfl, by simp [shps], C0.out.2⟩
    case round =>
      obtain ⟨k, hk, hgk, rfl, rfl, hb⟩ := hrel
      have GK := hidI hgk
      have HB := hidI hb
      clear hgk hb
      by_cases hlt : k < t.l.length
      · obtain ⟨b, off, rfl, z1, z2, a5, c5, a6, c6, p0, p1, p2, p3, p4, p5⟩ := vals_at VV.out.1 hlt
        unfold maxLen at z2
        replace p0 := cell_bel HB.out p0
        replace p1 := cell_bel HB.out p1
        replace p2 := cell_bel HB.out p2
        replace p3 := cell_bel HB.out p3
        replace p4 := cell_bel HB.out p4
        have P5 := hidI (p5.bel HB.out)
        have w1 : (0 : Int) ≤ (k : Int) := by omega
        have w2 : (k : Int) < (t.l.length : Int) := by omega
        have e1 : Hid (shps (t.l.take (k + 1)) = (shps (t.l.take k) && shp t.l[k])) := hidI (by rw [take_snocV hlt, shps_snoc])
        clear p5
        cases hoo : (o0 && shps (t.l.take k)) with
        | false =>
          have HN : Hid ((o0 && shps (t.l.take (k + 1))) = false) := hidI (by rw [e1.out, ← Bool.and_assoc, hoo]; rfl)
          clear hoo
          go_wp2_with fail
          go_roundg (t.l.length - (k + 1))
          case measure => rw [GK.out]; omega
          case rel => exact ⟨k + 1, hlt, rfl, by go_num, by rw [HN.out], bel_trans HB.out (bel_alloc _ _)⟩
        | true =>
          have HN : Hid ((o0 && shps (t.l.take (k + 1))) = shp t.l[k]) := hidI (by rw [e1.out, ← Bool.and_assoc, hoo]; rfl)
          clear hoo
          go_wp2_with fail
          refine (IH.out _ ok t.l[k] _ (by exact P5.out.bel (bel_alloc _ _))).mono ?_
          rintro e w4 ⟨rfl, hb4⟩
          have HB4 := hidI (bel_trans HB.out (bel_trans (bel_alloc _ _) hb4))
          clear hb4 p0 p1 p2 p3 p4
          go_wp2_with fail
          go_roundg (t.l.length - (k + 1))
          case measure => rw [GK.out]; omega
          case rel => exact ⟨k + 1, hlt, rfl, by go_num, by rw [HN.out], HB4.out⟩
      · have l1 : t.l.take k = t.l := List.take_of_length_le (by omega)
        have d1 : ¬ (k : Int) < (t.l.length : Int) := by omega
        rw [l1]
        have HF : Hid (shp t = (o0 && shps t.l)) := hidI (by rw [HSP.out, O0.out])
        clear l1
        go_wp2_with fail
        go_ret
        exact ⟨by rw [HF.out]; rfl, HB.out⟩
set_option maxRecDepth 100000 in
set_option maxHeartbeats 40000000 in
theorem rshaped_k4 (d : Nat) (ih : ShpC d) (w : World) (ok : Nat → Prop) (t : V) (v : Value) (h : VIs w ok (d + 1) t v) (hk : t.kind = 4) :
    Calls Tryd.prog 48 #[v] w fun e w' => e = .returned (.bool (shp t)) ∧ Below w.heap.size w w' := by
  have IH := hidI ih
  obtain ⟨a1, a2, c1, c2, rfl⟩ := h.shape
  have VV : Hid (ValsAre w ok (VIs w ok d) t.l (.slice a2 t.l.length c2) ∧ StrsAre w ok t.keys (.slice a1 t.keys.length c1) ∧ t.s.length ≤ 9223372036854775807) := hidI (by
    obtain ⟨ks, ls, e, h1, h2, h3, h4, h5⟩ := h
    simp only [Value.agg.injEq, Array.mk.injEq, List.cons.injEq, and_true] at e
    obtain ⟨-, -, -, rfl, rfl⟩ := e
    exact ⟨h5, h4, h3⟩)
  have ll : t.l.length ≤ 9223372036854775807 := VV.out.1.1
  have lk : t.keys.length ≤ 9223372036854775807 := VV.out.2.1.1
  have B1 := hidI (bel_alloc w (.cells #[.int .i64 t.kind, .int .i64 t.n, .string ⟨t.s.toArray⟩, .slice a1 t.keys.length c1, .slice a2 t.l.length c2] 25))
  have HK := hidI hk
  clear h ih hk
  go_enter Tryd.func48, Tryd.ntmps48
  go_upto_block 0 with fail
  go_cut [3] (fun b wc => b = .bool (shapedB t) ∧ BoxIs wc w.heap.size (.int .i64 t.kind) (.int .i64 t.n) (.string ⟨t.s.toArray⟩) (.slice a1 t.keys.length c1) (.slice a2 t.l.length c2) ∧ Below w.heap.size w wc)
  case first =>
    have hk := HK.out
    have f0 : (t.kind == 0) = false := by simp [hk]
    have f1 : (t.kind == 1) = false := by simp [hk]
    have f2 : (t.kind == 2) = false := by simp [hk]
    have f3 : (t.kind == 3) = false := by simp [hk]
    have g4 : (t.kind == 4) = true := by simp [hk]
    by_cases hN : t.n = 0
    · have qN : (t.n == 0) = true := by simp [hN]
      by_cases hS : t.s = []
      · have qS : (t.s == []) = true := by simp [hS]
        by_cases hK : t.keys.length = 0
        · have qK : ((t.keys.length : Int) == 0) = true := by simp [hK]
          have HR : Hid (shapedB t = true) := hidI (by simp [shapedB, listlessB, hk, hN, hS, hK])
          clear hk hN hS hK
          go_wp2_with fail
          go_meet
          case rel => exact ⟨by rw [HR.out], ⟨heap_alloc_new w _, B1.out⟩⟩
        · have qK : ((t.keys.length : Int) == 0) = false := by rw [beq_eq_false_iff_ne]; omega
          have HR : Hid (shapedB t = false) := hidI (by simp [shapedB, listlessB, hk, hN, hS, hK])
          clear hk hN hS hK
          go_wp2_with fail
          go_meet
          case rel => exact ⟨by rw [HR.out], ⟨heap_alloc_new w _, B1.out⟩⟩
      · have qS : (t.s == []) = false := by simp [hS]
        have HR : Hid (shapedB t = false) := hidI (by simp [shapedB, listlessB, hk, hN, hS])
        clear hk hN hS
        go_wp2_with fail
        go_meet
        case rel => exact ⟨by rw [HR.out], ⟨heap_alloc_new w _, B1.out⟩⟩
    · have qN : (t.n == 0) = false := by simp [hN]
      have HR : Hid (shapedB t = false) := hidI (by simp [shapedB, listlessB, hk, hN])
      clear hk hN
      go_wp2_with fail
      go_meet
      case rel => exact ⟨by rw [HR.out], ⟨heap_alloc_new w _, B1.out⟩⟩
  case rest =>
    obtain ⟨rfl, hc⟩ := hcut
    have C0 := hidI hc
    have HSP := hidI (shp_eq t)
    obtain ⟨y0, y1, y2, y3, y4, -⟩ := hc.1.c
    obtain ⟨o0, ho0⟩ : ∃ o, shapedB t = o := ⟨_, rfl⟩
    rw [ho0]
    have O0 := hidI ho0
    clear hc ho0
    go_wp2_with fail
    go_loopg [3, 179] t.l.length (fun gk b i wr => ∃ (k : Nat), k ≤ t.l.length ∧ gk = t.l.length - k ∧ i = .int .i64 k ∧ b = .bool (o0 && shps (t.l.take k)) ∧ Below w.heap.size w wr)
    case atStart => exact ⟨0, Nat.zero_le _, rfl, rfl, by simp [shps], C0.out.2⟩
    case round =>
      obtain ⟨k, hk, hgk, rfl, rfl, hb⟩ := hrel
      have GK := hidI hgk
      have HB := hidI hb
      clear hgk hb
      by_cases hlt : k < t.l.length
      · obtain ⟨b, off, rfl, z1, z2, a5, c5, a6, c6, p0, p1, p2, p3, p4, p5⟩ := vals_at VV.out.1 hlt
        unfold maxLen at z2
        replace p0 := cell_bel HB.out p0
        replace p1 := cell_bel HB.out p1
        replace p2 := cell_bel HB.out p2
        replace p3 := cell_bel HB.out p3
        replace p4 := cell_bel HB.out p4
        have P5 := hidI (p5.bel HB.out)
        have w1 : (0 : Int) ≤ (k : Int) := by omega
        have w2 : (k : Int) < (t.l.length : Int) := by omega
        have e1 : Hid (shps (t.l.take (k + 1)) = (shps (t.l.take k) && shp t.l[k])) := hidI (by rw [take_snocV hlt, shps_snoc])
        clear p5
        cases hoo : (o0 && shps (t.l.take k)) with
        | false =>
          have HN : Hid ((o0 && shps (t.l.take (k + 1))) = false) := hidI (by rw [e1.out, ← Bool.and_assoc, hoo]; rfl)
          clear hoo
          go_wp2_with fail
          go_roundg (t.l.length - (k + 1))
          case measure => rw [GK.out]; omega
          case rel => exact ⟨k + 1, hlt, rfl, by go_num, by rw [HN.out], bel_trans HB.out (bel_alloc _ _)⟩
        | true =>
          have HN : Hid ((o0 && shps (t.l.take (k + 1))) = shp t.l[k]) := hidI (by rw [e1.out, ← Bool.and_assoc, hoo]; rfl)
          clear hoo
          go_wp2_with fail
          refine (IH.out _ ok t.l[k] _ (by exact P5.out.bel (bel_alloc _ _))).mono ?_
          rintro e w4 ⟨rfl, hb4⟩
          have HB4 := hidI (bel_trans HB.out (bel_trans (bel_alloc _ _) hb4))
          clear hb4 p0 p1 p2 p3 p4
          go_wp2_with fail
          go_roundg (t.l.length - (k + 1))
          case measure => rw [GK.out]; omega
          case rel => exact ⟨k + 1, hlt, rfl, by go_num, by rw [HN.out], HB4.out⟩
      · have l1 : t.l.take k = t.l := List.take_of_length_le (by omega)
        have d1 : ¬ (k : Int) < (t.l.length : Int) := by omega
        rw [l1]
        have HF : Hid (shp t = (o0 && shps t.l)) := hidI (by rw [HSP.out, O0.out])
        clear l1
        go_wp2_with fail
        go_ret
        exact ⟨by rw [HF.out]; rfl, HB.out⟩
set_option maxRecDepth 100000 in
set_option maxHeartbeats 40000000 in
theorem rshaped_k6 (d : Nat) (ih : ShpC d) (w : World) (ok : Nat → Prop) (t : V) (v : Value) (h : VIs w ok (d + 1) t v) (hk : t.kind ≠ 0 ∧ t.kind ≠ 1 ∧ t.kind ≠ 2 ∧ t.kind ≠ 3 ∧ t.kind ≠ 4 ∧ t.kind ≠ 5) :
    Calls Tryd.prog 48 #[v] w fun e w' => e = .returned (.bool (shp t)) ∧ Below w.heap.size w w' := by
  have IH := hidI ih
  obtain ⟨a1, a2, c1, c2, rfl⟩ := h.shape
  have VV : Hid (ValsAre w ok (VIs w ok d) t.l (.slice a2 t.l.length c2) ∧ StrsAre w ok t.keys (.slice a1 t.keys.length c1) ∧ t.s.length ≤ 9223372036854775807) := hidI (by
    obtain ⟨ks, ls, e, h1, h2, h3, h4, h5⟩ := h
    simp only [Value.agg.injEq, Array.mk.injEq, List.cons.injEq, and_true] at e
    obtain ⟨-, -, -, rfl, rfl⟩ := e
    exact ⟨h5, h4, h3⟩)
  have ll : t.l.length ≤ 9223372036854775807 := VV.out.1.1
  have lk : t.keys.length ≤ 9223372036854775807 := VV.out.2.1.1
  have B1 := hidI (bel_alloc w (.cells #[.int .i64 t.kind, .int .i64 t.n, .string ⟨t.s.toArray⟩, .slice a1 t.keys.length c1, .slice a2 t.l.length c2] 25))
  have HK := hidI hk
  clear h ih hk
  go_enter Tryd.func48, Tryd.ntmps48
  go_upto_block 0 with fail
  go_cut [3] (fun b wc => b = .bool (shapedB t) ∧ BoxIs wc w.heap.size (.int .i64 t.kind) (.int .i64 t.n) (.string ⟨t.s.toArray⟩) (.slice a1 t.keys.length c1) (.slice a2 t.l.length c2) ∧ Below w.heap.size w wc)
  case first =>
    have hk := HK.out
    obtain ⟨n0, n1, n2, n3, n4, n5⟩ := hk
    have f0 : (t.kind == 0) = false := by rw [beq_eq_false_iff_ne]; exact n0
    have f1 : (t.kind == 1) = false := by rw [beq_eq_false_iff_ne]; exact n1
    have f2 : (t.kind == 2) = false := by rw [beq_eq_false_iff_ne]; exact n2
    have f3 : (t.kind == 3) = false := by rw [beq_eq_false_iff_ne]; exact n3
    have f4 : (t.kind == 4) = false := by rw [beq_eq_false_iff_ne]; exact n4
    have f5 : (t.kind == 5) = false := by rw [beq_eq_false_iff_ne]; exact n5
    have HR : Hid (shapedB t = false) := hidI (by simp [shapedB, n0, n1, n2, n3, n4, n5])
    clear n0 n1 n2 n3 n4 n5
    go_wp2_with fail
    go_meet
    case rel => exact ⟨by rw [HR.out], heap_alloc_new w _, B1.out⟩
  case rest =>
    obtain ⟨rfl, hc⟩ := hcut
    have C0 := hidI hc
    have HSP := hidI (shp_eq t)
    obtain ⟨y0, y1, y2, y3, y4, -⟩ := hc.1.c
    obtain ⟨o0, ho0⟩ : ∃ o, shapedB t = o := ⟨_, rfl⟩
    rw [ho0]
    have O0 := hidI ho0
    clear hc ho0
    go_wp2_with fail
    go_loopg [3, 179] t.l.length (fun gk b i wr => ∃ (k : Nat), k ≤ t.l.length ∧ gk = t.l.length - k ∧ i = .int .i64 k ∧ b = .bool (o0 && shps (t.l.take k)) ∧ Below w.heap.size w wr)
    case atStart => exact ⟨0, Nat.zero_le _, rfl, rfl, by simp [shps], C0.out.2⟩
    case round =>
      obtain ⟨k, hk, hgk, rfl, rfl, hb⟩ := hrel
      have GK := hidI hgk
      have HB := hidI hb
      clear hgk hb
      by_cases hlt : k < t.l.length
      · obtain ⟨b, off, rfl, z1, z2, a5, c5, a6, c6, p0, p1, p2, p3, p4, p5⟩ := vals_at VV.out.1 hlt
        unfold maxLen at z2
        replace p0 := cell_bel HB.out p0
        replace p1 := cell_bel HB.out p1
        replace p2 := cell_bel HB.out p2
        replace p3 := cell_bel HB.out p3
        replace p4 := cell_bel HB.out p4
        have P5 := hidI (p5.bel HB.out)
        have w1 : (0 : Int) ≤ (k : Int) := by omega
        have w2 : (k : Int) < (t.l.length : Int) := by omega
        have e1 : Hid (shps (t.l.take (k + 1)) = (shps (t.l.take k) && shp t.l[k])) := hidI (by rw [take_snocV hlt, shps_snoc])
        clear p5
        cases hoo : (o0 && shps (t.l.take k)) with
        | false =>
          have HN : Hid ((o0 && shps (t.l.take (k + 1))) = false) := hidI (by rw [e1.out, ← Bool.and_assoc, hoo]; rfl)
          clear hoo
          go_wp2_with fail
          go_roundg (t.l.length - (k + 1))
          case measure => rw [GK.out]; omega
          case rel => exact ⟨k + 1, hlt, rfl, by go_num, by rw [HN.out], bel_trans HB.out (bel_alloc _ _)⟩
        | true =>
          have HN : Hid ((o0 && shps (t.l.take (k + 1))) = shp t.l[k]) := hidI (by rw [e1.out, ← Bool.and_assoc, hoo]; rfl)
          clear hoo
          go_wp2_with fail
          refine (IH.out _ ok t.l[k] _ (by exact P5.out.bel (bel_alloc _ _))).mono ?_
          rintro e w4 ⟨rfl, hb4⟩
          have HB4 := hidI (bel_trans HB.out (bel_trans (bel_alloc _ _) hb4))
          clear hb4 p0 p1 p2 p3 p4
          go_wp2_with fail
          go_roundg (t.l.length - (k + 1))
          case measure => rw [GK.out]; omega
          case rel => exact ⟨k + 1, hlt, rfl, by go_num, by rw [HN.out], HB4.out⟩
      · have l1 : t.l.take k = t.l := List.take_of_length_le (by omega)
        have d1 : ¬ (k : Int) < (t.l.length : Int) := by omega
        rw [l1]
        have HF : Hid (shp t = (o0 && shps t.l)) := hidI (by rw [HSP.out, O0.out])
        clear l1
        go_wp2_with fail
        go_ret
        exact ⟨by rw [HF.out]; rfl, HB.out⟩
end Go.Proofs.YtaifciobaapehaaDoor

/- What shaped of package stairwellref does. -/
set_option linter.unusedSimpArgs false
set_option linter.unusedVariables false
namespace Go.Proofs.YtaifciobaapehaaDoor
open Go.RowKit
attribute [local go_sem ↓] Go.wp_at_zero Go.wp_at_succ

set_option maxRecDepth 100000 in
set_option maxHeartbeats 40000000 in
theorem rshaped_k5 (d : Nat) (ih : ShpC d) (w : World) (ok : Nat → Prop) (t : V) (v : Value) (h : VIs w ok (d + 1) t v) (hk : t.kind = 5) :
    Calls Tryd.prog 48 #[v] w fun e w' => e = .returned (.bool (shp t)) ∧ Below w.heap.size w w' := by
  have IH := hidI ih
  obtain ⟨a1, a2, c1, c2, rfl⟩ := h.shape
  have VV : Hid (ValsAre w ok (VIs w ok d) t.l (.slice a2 t.l.length c2) ∧ StrsAre w ok t.keys (.slice a1 t.keys.length c1) ∧ t.s.length ≤ 9223372036854775807) := hidI (by
    obtain ⟨ks, ls, e, h1, h2, h3, h4, h5⟩ := h
    simp only [Value.agg.injEq, Array.mk.injEq, List.cons.injEq, and_true] at e
    obtain ⟨-, -, -, rfl, rfl⟩ := e
    exact ⟨h5, h4, h3⟩)
  have ll : t.l.length ≤ 9223372036854775807 := VV.out.1.1
  have lk : t.keys.length ≤ 9223372036854775807 := VV.out.2.1.1
  have B1 := hidI (bel_alloc w (.cells #[.int .i64 t.kind, .int .i64 t.n, .string ⟨t.s.toArray⟩, .slice a1 t.keys.length c1, .slice a2 t.l.length c2] 25))
  have HK := hidI hk
  clear h ih hk
  go_enter Tryd.func48, Tryd.ntmps48
  go_upto_block 0 with fail
  go_cut [3] (fun b wc => b = .bool (shapedB t) ∧ BoxIs wc w.heap.size (.int .i64 t.kind) (.int .i64 t.n) (.string ⟨t.s.toArray⟩) (.slice a1 t.keys.length c1) (.slice a2 t.l.length c2) ∧ Below w.heap.size w wc)
  case first =>
    have hk := HK.out
    have f0 : (t.kind == 0) = false := by simp [hk]
    have f1 : (t.kind == 1) = false := by simp [hk]
    have f2 : (t.kind == 2) = false := by simp [hk]
    have f3 : (t.kind == 3) = false := by simp [hk]
    have f4 : (t.kind == 4) = false := by simp [hk]
    have g5 : (t.kind == 5) = true := by simp [hk]
    obtain ⟨o5, ho5⟩ : ∃ o, (decide (t.n = 0) && decide (t.s = []) && decide (t.keys.length = t.l.length)) = o := ⟨_, rfl⟩
    have S5 : Hid (shapedB t = (o5 && riseFrom none t.keys)) := hidI (by rw [shaped_five hk, ho5])
    have O5 := hidI ho5
    clear hk ho5
    go_upto_region 14 with fail
    go_cut [3] (fun b wc => b = .bool o5 ∧ BoxIs wc w.heap.size (.int .i64 t.kind) (.int .i64 t.n) (.string ⟨t.s.toArray⟩) (.slice a1 t.keys.length c1) (.slice a2 t.l.length c2) ∧ Below w.heap.size w wc)
    case first =>
      by_cases hN : t.n = 0
      · have qN : (t.n == 0) = true := by simp [hN]
        by_cases hS : t.s = []
        · have qS : (t.s == []) = true := by simp [hS]
          by_cases hM : t.keys.length = t.l.length
          · have qM : ((t.keys.length : Int) == (t.l.length : Int)) = true := by simp [hM]
            have HR : Hid (o5 = true) := hidI (by rw [← O5.out]; simp [hN, hS, hM])
            clear hN hS hM
            go_wp2_with fail
            go_meet
            case rel => exact ⟨by rw [HR.out], heap_alloc_new w _, B1.out⟩
          · have qM : ((t.keys.length : Int) == (t.l.length : Int)) = false := by rw [beq_eq_false_iff_ne]; omega
            have HR : Hid (o5 = false) := hidI (by rw [← O5.out]; simp [hN, hS, hM])
            clear hN hS hM
            go_wp2_with fail
            go_meet
            case rel => exact ⟨by rw [HR.out], heap_alloc_new w _, B1.out⟩
        · have qS : (t.s == []) = false := by simp [hS]
          have HR : Hid (o5 = false) := hidI (by rw [← O5.out]; simp [hN, hS])
          clear hN hS
          go_wp2_with fail
          go_meet
          case rel => exact ⟨by rw [HR.out], heap_alloc_new w _, B1.out⟩
      · have qN : (t.n == 0) = false := by simp [hN]
        have HR : Hid (o5 = false) := hidI (by rw [← O5.out]; simp [hN])
        clear hN
        go_wp2_with fail
        go_meet
        case rel => exact ⟨by rw [HR.out], heap_alloc_new w _, B1.out⟩
    case rest =>
      obtain ⟨rfl, hc⟩ := hcut
      have C0 := hidI hc
      obtain ⟨y0, y1, y2, y3, y4, -⟩ := hc.1.c
      clear hc
      go_wp2_with fail
      go_loopg [3, 145] t.keys.length (fun gk b i wr => ∃ (k : Nat) (o : Bool), k ≤ t.keys.length ∧ gk = t.keys.length - k ∧ i = .int .i64 k ∧ b = .bool o ∧ Hid (shapedB t = (o && riseFrom (prevAt t.keys k) (t.keys.drop k))) ∧ BoxIs wr w.heap.size (.int .i64 t.kind) (.int .i64 t.n) (.string ⟨t.s.toArray⟩) (.slice a1 t.keys.length c1) (.slice a2 t.l.length c2) ∧ Below w.heap.size w wr)
      case atStart => exact ⟨0, o5, Nat.zero_le _, rfl, rfl, rfl, hidI S5.out, C0.out⟩
      case round =>
        obtain ⟨k, o, hk, hgk, rfl, rfl, HS, hc⟩ := hrel
        have GK := hidI hgk
        have CC := hidI hc
        obtain ⟨y0, y1, y2, y3, y4, -⟩ := hc.1.c
        clear hgk hc
        by_cases hlt : k < t.keys.length
        · have w1 : (0 : Int) ≤ (k : Int) := by omega
          have w2 : (k : Int) < (t.keys.length : Int) := by omega
          have ST := hidI (riseFrom_step hlt)
          cases o with
          | false =>
            have HN : Hid (shapedB t = (false && riseFrom (prevAt t.keys (k + 1)) (t.keys.drop (k + 1)))) := hidI (by rw [HS.out]; rfl)
            clear HS ST
            go_wp2_with fail
            go_quiet (fail)
            all_goals
              go_wp2_with fail
              go_roundg (t.keys.length - (k + 1))
              case measure => rw [GK.out]; omega
              case rel => exact ⟨k + 1, false, hlt, rfl, by go_num, rfl, HN, by first | exact CC.out | exact ⟨box_bel (bel_drewN _ _) CC.out.1, bel_trans CC.out.2 (bel_drewN _ _)⟩ | exact ⟨box_bel (show Below wr.heap.size wr wr.drew from (Below.refl _ wr).drew) CC.out.1, bel_trans CC.out.2 (show Below wr.heap.size wr wr.drew from (Below.refl _ wr).drew)⟩⟩
          | true =>
            obtain ⟨kb, ko, rfl, z1, z2, hc1⟩ := strs_at VV.out.2.1 hlt
            unfold maxLen at z2
            have hcell := cell_bel CC.out.2 hc1
            have KLn : Hid (t.keys[k].length ≤ 9223372036854775807) := hidI (by
              rcases VV.out.2.1.2 with ⟨e, _⟩ | ⟨b, off, c', e, h1, h2, hcs⟩
              · rw [e] at hlt; simp at hlt
              · exact (hcs k t.keys[k] (List.getElem?_eq_getElem hlt)).1)
            have CALL : Hid (∀ (o : Bool), plainB t.keys[k] = o → ∀ (n : Nat) (os : Array Obj), Calls Tryd.prog 68 #[.string ⟨t.keys[k].toArray⟩] (Go.Sort.grow (wr.drewN n) os) fun e w'' => e = .returned (.bool o) ∧ ∃ p : GrownBy, w'' = Go.Sort.grow (wr.drewN p.n) p.os) := hidI (fun o ho n os => Calls.grown_of ((ascii_gr _ t.keys[k] KLn.out).mono fun e w4 h => ⟨by rw [← ho]; exact h.1, h.2⟩))
            have hmix : Tryd.prog.follows .mixedOrders = true := by kernel_rfl
            have s0 : ∀ n os, (Go.Sort.grow (wr.drewN n) os).cell? ⟨w.heap.size, 3, none⟩ = some (.slice (some ⟨kb, ko, none⟩) t.keys.length c1) := cell_grown CC.out.1.lt CC.out.1.c.2.2.2.1
            have s1 : ∀ n os, (Go.Sort.grow (wr.drewN n) os).cell? ⟨kb, ko + k, none⟩ = some (.string ⟨t.keys[k].toArray⟩) := cell_grown (World.block_lt_of_cell? wr _ hcell) hcell
            clear hc1
            cases hpl : plainB t.keys[k] with
            | false =>
              have HPL := hidI hpl
              have HN : Hid (shapedB t = (false && riseFrom (prevAt t.keys (k + 1)) (t.keys.drop (k + 1)))) := hidI (by rw [HS.out, ST.out, hpl]; rfl)
              clear hpl HS ST
              go_wp2_with fail
              refine wp_region_quiet_grown (by assumption) (by kernel_rfl) ?_
              repeat (first | go_big_quiet_step ((go_at_call 68; exact CALL.out _ HPL.out _ _)) | quiet_step ((go_at_call 68; exact CALL.out _ HPL.out _ _)))
              refine wpQuiet_nil ?_
              intro _ hw'
              obtain ⟨⟨nq, osq⟩, hw''⟩ := hw'
              subst hw''
              all_goals
                go_wp2_with fail
                go_roundg (t.keys.length - (k + 1))
                case measure => rw [GK.out]; omega
                case rel => exact ⟨k + 1, false, hlt, rfl, by go_num, rfl, HN, box_bel (bel_grow _ _ _) CC.out.1, bel_trans CC.out.2 (bel_grow _ _ _)⟩
            | true =>
              have HPL := hidI hpl
              clear hpl
              by_cases hk0 : k = 0
              · have e9 : ((k : Int) == 0) = true := by simp [hk0]
                have HN : Hid (shapedB t = (true && riseFrom (prevAt t.keys (k + 1)) (t.keys.drop (k + 1)))) := hidI (by rw [HS.out, ST.out, HPL.out, show prevAt t.keys k = none by simp [prevAt, hk0]]; rfl)
                clear HS ST hk0
                go_wp2_with fail
                refine wp_region_quiet_grown (by assumption) (by kernel_rfl) ?_
                repeat (first | go_big_quiet_step ((go_at_call 68; exact CALL.out _ HPL.out _ _)) | quiet_step ((go_at_call 68; exact CALL.out _ HPL.out _ _)))
                refine wpQuiet_nil ?_
                intro _ hw'
                obtain ⟨⟨nq, osq⟩, hw''⟩ := hw'
                subst hw''
                go_wp2_with fail
                go_roundg (t.keys.length - (k + 1))
                case measure => rw [GK.out]; omega
                case rel => exact ⟨k + 1, true, hlt, rfl, by go_num, rfl, HN, box_bel (bel_grow _ _ _) CC.out.1, bel_trans CC.out.2 (bel_grow _ _ _)⟩
              · have e9 : ((k : Int) == 0) = false := by rw [beq_eq_false_iff_ne]; omega
                obtain ⟨j, hj9⟩ : ∃ j, k = j + 1 := ⟨k - 1, by omega⟩
                have hj : j < t.keys.length := by omega
                obtain ⟨kb', ko', hke, -, -, hc2⟩ := strs_at VV.out.2.1 hj
                simp only [Option.some.injEq, Addr.mk.injEq, and_true] at hke
                obtain ⟨rfl, rfl⟩ := hke
                have hcell2 := cell_bel CC.out.2 hc2
                have j1 : (k : Int) - 1 = (j : Int) := by omega
                have j2 : (j : Int) < (t.keys.length : Int) := by omega
                have j3 : (0 : Int) ≤ (j : Int) := by omega
                have Z : Hid (prevAt t.keys k = some t.keys[j]) := hidI (by simp [prevAt, hk0, show k - 1 = j by omega, List.getElem?_eq_getElem hj])
                have s2 : ∀ n os, (Go.Sort.grow (wr.drewN n) os).cell? ⟨kb, ko + j, none⟩ = some (.string ⟨t.keys[j].toArray⟩) := cell_grown (World.block_lt_of_cell? wr _ hcell2) hcell2
                clear hc2 hk0 hj9
                cases hbl : Op.bytesLess t.keys[j] t.keys[k] with
                | true =>
                  have HN : Hid (shapedB t = (true && riseFrom (prevAt t.keys (k + 1)) (t.keys.drop (k + 1)))) := hidI (by rw [HS.out, ST.out, HPL.out, Z.out]; simp only [hbl]; rfl)
                  clear HS ST Z
                  go_wp2_with fail
                  refine wp_region_quiet_grown (by assumption) (by kernel_rfl) ?_
                  repeat (first | go_big_quiet_step ((go_at_call 68; exact CALL.out _ HPL.out _ _)) | quiet_step ((go_at_call 68; exact CALL.out _ HPL.out _ _)))
                  refine wpQuiet_nil ?_
                  intro _ hw'
                  obtain ⟨⟨nq, osq⟩, hw''⟩ := hw'
                  subst hw''
                  go_wp2_with fail
                  go_roundg (t.keys.length - (k + 1))
                  case measure => rw [GK.out]; omega
                  case rel => exact ⟨k + 1, true, hlt, rfl, by go_num, rfl, HN, box_bel (bel_grow _ _ _) CC.out.1, bel_trans CC.out.2 (bel_grow _ _ _)⟩
                | false =>
                  have HN : Hid (shapedB t = (false && riseFrom (prevAt t.keys (k + 1)) (t.keys.drop (k + 1)))) := hidI (by rw [HS.out, ST.out, HPL.out, Z.out]; simp only [hbl]; rfl)
                  clear HS ST Z
                  go_wp2_with fail
                  refine wp_region_quiet_grown (by assumption) (by kernel_rfl) ?_
                  repeat (first | go_big_quiet_step ((go_at_call 68; exact CALL.out _ HPL.out _ _)) | quiet_step ((go_at_call 68; exact CALL.out _ HPL.out _ _)))
                  refine wpQuiet_nil ?_
                  intro _ hw'
                  obtain ⟨⟨nq, osq⟩, hw''⟩ := hw'
                  subst hw''
                  go_wp2_with fail
                  go_roundg (t.keys.length - (k + 1))
                  case measure => rw [GK.out]; omega
                  case rel => exact ⟨k + 1, false, hlt, rfl, by go_num, rfl, HN, box_bel (bel_grow _ _ _) CC.out.1, bel_trans CC.out.2 (bel_grow _ _ _)⟩
        · have l1 : t.keys.drop k = [] := List.drop_eq_nil_of_le (by omega)
          have HN : Hid (shapedB t = o) := hidI (by rw [HS.out, l1]; simp [riseFrom])
          have d1 : ¬ (k : Int) < (t.keys.length : Int) := by omega
          clear l1
          go_wp2_with fail
          go_meet
          case rel => exact ⟨by rw [HN.out], CC.out⟩
  case rest =>
    obtain ⟨rfl, hc⟩ := hcut
    have C0 := hidI hc
    have HSP := hidI (shp_eq t)
    obtain ⟨y0, y1, y2, y3, y4, -⟩ := hc.1.c
    obtain ⟨o0, ho0⟩ : ∃ o, shapedB t = o := ⟨_, rfl⟩
    rw [ho0]
    have O0 := hidI ho0
    clear hc ho0
    go_wp2_with fail
    go_loopg [3, 179] t.l.length (fun gk b i wr => ∃ (k : Nat), k ≤ t.l.length ∧ gk = t.l.length - k ∧ i = .int .i64 k ∧ b = .bool (o0 && shps (t.l.take k)) ∧ Below w.heap.size w wr)
    case atStart => exact ⟨0, Nat.zero_le _, rfl, rfl, by simp [shps], C0.out.2⟩
    case round =>
      obtain ⟨k, hk, hgk, rfl, rfl, hb⟩ := hrel
      have GK := hidI hgk
      have HB := hidI hb
      clear hgk hb
      by_cases hlt : k < t.l.length
      · obtain ⟨b, off, rfl, z1, z2, a5, c5, a6, c6, p0, p1, p2, p3, p4, p5⟩ := vals_at VV.out.1 hlt
        unfold maxLen at z2
        replace p0 := cell_bel HB.out p0
        replace p1 := cell_bel HB.out p1
        replace p2 := cell_bel HB.out p2
        replace p3 := cell_bel HB.out p3
        replace p4 := cell_bel HB.out p4
        have P5 := hidI (p5.bel HB.out)
        have w1 : (0 : Int) ≤ (k : Int) := by omega
        have w2 : (k : Int) < (t.l.length : Int) := by omega
        have e1 : Hid (shps (t.l.take (k + 1)) = (shps (t.l.take k) && shp t.l[k])) := hidI (by rw [take_snocV hlt, shps_snoc])
        clear p5
        cases hoo : (o0 && shps (t.l.take k)) with
        | false =>
          have HN : Hid ((o0 && shps (t.l.take (k + 1))) = false) := hidI (by rw [e1.out, ← Bool.and_assoc, hoo]; rfl)
          clear hoo
          go_wp2_with fail
          go_roundg (t.l.length - (k + 1))
          case measure => rw [GK.out]; omega
          case rel => exact ⟨k + 1, hlt, rfl, by go_num, by rw [HN.out], bel_trans HB.out (bel_alloc _ _)⟩
        | true =>
          have HN : Hid ((o0 && shps (t.l.take (k + 1))) = shp t.l[k]) := hidI (by rw [e1.out, ← Bool.and_assoc, hoo]; rfl)
          clear hoo
          go_wp2_with fail
          refine (IH.out _ ok t.l[k] _ (by exact P5.out.bel (bel_alloc _ _))).mono ?_
          rintro e w4 ⟨rfl, hb4⟩
          have HB4 := hidI (bel_trans HB.out (bel_trans (bel_alloc _ _) hb4))
          clear hb4 p0 p1 p2 p3 p4
          go_wp2_with fail
          go_roundg (t.l.length - (k + 1))
          case measure => rw [GK.out]; omega
          case rel => exact ⟨k + 1, hlt, rfl, by go_num, by rw [HN.out], HB4.out⟩
      · have l1 : t.l.take k = t.l := List.take_of_length_le (by omega)
        have d1 : ¬ (k : Int) < (t.l.length : Int) := by omega
        rw [l1]
        have HF : Hid (shp t = (o0 && shps t.l)) := hidI (by rw [HSP.out, O0.out])
        clear l1
        go_wp2_with fail
        go_ret
        exact ⟨by rw [HF.out]; rfl, HB.out⟩
end Go.Proofs.YtaifciobaapehaaDoor

/- What shaped of package stairwellref does, of every kind. -/
set_option linter.unusedSimpArgs false
set_option linter.unusedVariables false
namespace Go.Proofs.YtaifciobaapehaaDoor
open Go.RowKit

theorem rshaped_all (d : Nat) : ShpC d := by
  induction d with
  | zero => exact fun _ _ _ _ h => h.elim
  | succ d ih =>
    intro w ok t v h
    by_cases h0 : t.kind = 0
    · exact rshaped_k0 d ih w ok t v h h0
    by_cases h1 : t.kind = 1
    · exact rshaped_k1 d ih w ok t v h h1
    by_cases h2 : t.kind = 2
    · exact rshaped_k2 d ih w ok t v h h2
    by_cases h3 : t.kind = 3
    · exact rshaped_k3 d ih w ok t v h h3
    by_cases h4 : t.kind = 4
    · exact rshaped_k4 d ih w ok t v h h4
    by_cases h5 : t.kind = 5
    · exact rshaped_k5 d ih w ok t v h h5
    exact rshaped_k6 d ih w ok t v h ⟨h0, h1, h2, h3, h4, h5⟩
end Go.Proofs.YtaifciobaapehaaDoor

/- What depthOf and ascii of package stairwellref do. -/
set_option linter.unusedSimpArgs false
set_option linter.unusedVariables false
namespace Go.Proofs.YtaifciobaapehaaDoor
open Go.RowKit

def DptC (d : Nat) : Prop := ∀ (w : World) (ok : Nat → Prop) (t : V) (v : Value), VIs w ok d t v → cnt t ≤ 1000000000000000 →
    Calls Tryd.prog 47 #[v] w fun e w' => e = .returned (.tuple #[.int .i64 (dpt t : Int), .int .i64 (cnt t : Int)]) ∧ Below w.heap.size w w'

set_option maxRecDepth 100000 in
set_option maxHeartbeats 8000000 in
theorem depthOf_succ (d : Nat) (ih : DptC d) : DptC (d + 1) := by
  intro w ok t v h hN
  have IH := hidI ih
  have H := hidI (h.is : In w ok t v)
  obtain ⟨a1, a2, c1, c2, rfl⟩ := h.shape
  have VV : Hid (ValsAre w ok (VIs w ok d) t.l (.slice a2 t.l.length c2)) := hidI (by
    obtain ⟨ks, ls, e, h1, h2, h3, h4, h5⟩ := h
    simp only [Value.agg.injEq, Array.mk.injEq, List.cons.injEq, and_true] at e
    obtain ⟨-, -, -, -, rfl⟩ := e
    exact h5)
  have ll : t.l.length ≤ 9223372036854775807 := VV.out.1
  have B1 := hidI (bel_alloc w (.cells #[.int .i64 t.kind, .int .i64 t.n, .string ⟨t.s.toArray⟩, .slice a1 t.keys.length c1, .slice a2 t.l.length c2] 25))
  have HC := hidI (cnt_eq t)
  have HDT := hidI (dpt_eq t)
  have HN := hidI hN
  clear h ih hN
  go_enter Tryd.func47, Tryd.ntmps47
  go_wp2_with fail
  go_loopg [4, 5, 13] t.l.length (fun gk dd n i wr => ∃ k : Nat, k ≤ t.l.length ∧ gk = t.l.length - k ∧ i = .int .i64 k ∧ dd = .int .i64 (dpts (t.l.take k) : Int) ∧ n = .int .i64 ((1 + cnts (t.l.take k) : Nat) : Int) ∧ Below w.heap.size w wr)
  case atStart => exact ⟨0, Nat.zero_le _, rfl, rfl, rfl, rfl, B1.out⟩
  case round =>
    obtain ⟨k, hk, hgk, rfl, rfl, rfl, hb⟩ := hrel
    have GK := hidI hgk
    have HB := hidI hb
    have q1 := cnts_take (xs := t.l) k
    have q2 := dpts_cnt (t.l.take k)
    have q3 : cnts t.l ≤ 1000000000000000 := by have := HC.out; have := HN.out; omega
    clear hgk hb
    by_cases hlt : k < t.l.length
    · obtain ⟨b, off, rfl, z1, z2, a5, c5, a6, c6, p0, p1, p2, p3, p4, p5⟩ := vals_at VV.out hlt
      unfold maxLen at z2
      replace p0 := cell_bel HB.out p0
      replace p1 := cell_bel HB.out p1
      replace p2 := cell_bel HB.out p2
      replace p3 := cell_bel HB.out p3
      replace p4 := cell_bel HB.out p4
      have P5 := hidI (p5.bel HB.out)
      have w1 : (0 : Int) ≤ (k : Int) := by omega
      have w2 : (k : Int) < (t.l.length : Int) := by omega
      have hx := cnts_mem (List.getElem_mem hlt)
      have hxd := dpt_cnt t.l[k]
      have hxn : cnt t.l[k] ≤ 1000000000000000 := by omega
      have e1 : Hid (dpts (t.l.take (k + 1)) = max (dpts (t.l.take k)) (dpt t.l[k])) := hidI (by rw [take_snocV hlt, dpts_snoc])
      have e2 : Hid (cnts (t.l.take (k + 1)) = cnts (t.l.take k) + cnt t.l[k]) := hidI (by rw [take_snocV hlt, cnts_snoc])
      have q4 := cnts_take (xs := t.l) (k + 1)
      have q5 : cnts (t.l.take k) + cnt t.l[k] ≤ 1000000000000000 := by have := e2.out; omega
      clear p5 q4
      obtain ⟨x, hxe⟩ : ∃ x, dpt t.l[k] = x := ⟨_, rfl⟩
      obtain ⟨m, hme⟩ : ∃ m, cnt t.l[k] = m := ⟨_, rfl⟩
      obtain ⟨dd, hdd⟩ : ∃ m, dpts (t.l.take k) = m := ⟨_, rfl⟩
      obtain ⟨nn, hnn⟩ : ∃ m, cnts (t.l.take k) = m := ⟨_, rfl⟩
      rw [hme] at q5 hx hxn hxd
      rw [hxe] at hxd
      rw [hdd] at q2 ⊢
      rw [hnn] at q1 q2 q5 ⊢
      have X1 := hidI hxe
      have X2 := hidI hme
      have X3 := hidI hdd
      have X4 := hidI hnn
      have XN := hidI hxn
      clear hxe hme hdd hnn hxn
      go_wp2_with fail
      refine (IH.out _ ok t.l[k] _ (by exact P5.out.bel (bel_alloc _ _)) (by rw [X2.out]; exact XN.out)).mono ?_
      rintro e w4 ⟨rfl, hb4⟩
      rw [X1.out, X2.out]
      have HB4 := hidI (bel_trans HB.out (bel_trans (bel_alloc _ _) hb4))
      clear hb4 p0 p1 p2 p3 p4
      by_cases hmx : dd ≤ x
      · have m1 : max (dd : Int) (x : Int) = (x : Int) := by omega
        go_wp2_with fail
        go_roundg (t.l.length - (k + 1))
        case measure => rw [GK.out]; omega
        case rel => exact ⟨k + 1, hlt, rfl, by go_num, by rw [e1.out, X1.out, X3.out, Nat.max_eq_right hmx], by rw [e2.out, X2.out, X4.out]; go_num, HB4.out⟩
      · have m1 : max (dd : Int) (x : Int) = (dd : Int) := by omega
        go_wp2_with fail
        go_roundg (t.l.length - (k + 1))
        case measure => rw [GK.out]; omega
        case rel => exact ⟨k + 1, hlt, rfl, by go_num, by rw [e1.out, X1.out, X3.out, Nat.max_eq_left (by omega)], by rw [e2.out, X2.out, X4.out]; go_num, HB4.out⟩
    · have l1 : t.l.take k = t.l := List.take_of_length_le (by omega)
      have d1 : ¬ (k : Int) < (t.l.length : Int) := by omega
      rw [l1] at q2 q1 ⊢
      have F1 : Hid (((dpts t.l : Int) + 1) = (dpt t : Int)) := hidI (by rw [HDT.out]; omega)
      have F2 : Hid (((1 + cnts t.l : Nat) : Int) = (cnt t : Int)) := hidI (by rw [HC.out])
      clear l1
      go_wp2_with fail
      go_ret2
      exact ⟨by rw [← F1.out, ← F2.out]; rfl, HB.out⟩
theorem depthOf_all (d : Nat) : DptC d := by
  induction d with
  | zero => exact fun _ _ _ _ h => h.elim
  | succ d ih => exact depthOf_succ d ih
theorem depthOf_is (w : World) (ok : Nat → Prop) (t : V) (v : Value) (h : In w ok t v) (hN : cnt t ≤ 1000000000000000) :
    Calls Tryd.prog 47 #[v] w fun e w' => e = .returned (.tuple #[.int .i64 (dpt t : Int), .int .i64 (cnt t : Int)]) ∧ Below w.heap.size w w' := by
  obtain ⟨d, h⟩ := h; exact depthOf_all d w ok t v h hN
end Go.Proofs.YtaifciobaapehaaDoor

/- What GoodValue of package stairwellref answers: what Good answers. -/
set_option linter.unusedSimpArgs false
set_option linter.unusedVariables false
namespace Go.Proofs.YtaifciobaapehaaDoor
open Go.RowKit

theorem rshaped_is (w : World) (ok : Nat → Prop) (t : V) (v : Value) (h : In w ok t v) :
    Calls Tryd.prog 48 #[v] w fun e w' => e = .returned (.bool (shp t)) ∧ Below w.heap.size w w' := by
  obtain ⟨d, h⟩ := h; exact rshaped_all d w ok t v h
set_option maxRecDepth 100000 in
set_option maxHeartbeats 8000000 in
theorem rgood_is (w : World) (ok : Nat → Prop) (t : V) (v : Value) (h : In w ok t v) (hN : cnt t ≤ 1000000000000000) :
    Calls Tryd.prog 27 #[v] w fun e w' => e = .returned (.bool (goodV t)) ∧ Below w.heap.size w w' := by
  have H := hidI h
  have HG := hidI (good_ref t)
  have hd := dpt_cnt t
  obtain ⟨a1, a2, c1, c2, rfl⟩ := h.form
  clear h
  have HN := hidI hN
  obtain ⟨x, hx⟩ : ∃ x, dpt t = x := ⟨_, rfl⟩
  obtain ⟨m, hm⟩ : ∃ m, cnt t = m := ⟨_, rfl⟩
  rw [hm] at hd hN
  rw [hx] at hd
  have X := hidI hx
  have M := hidI hm
  clear hx hm
  go_enter Tryd.func27, Tryd.ntmps27
  go_wp2_with fail
  refine (depthOf_is _ ok t _ (by exact H.out.bel (bel_alloc _ _)) HN.out).mono ?_
  rintro e w1 ⟨rfl, hb1⟩
  rw [X.out, M.out]
  have K1 : Hid (BoxIs w1 w.heap.size (.int .i64 t.kind) (.int .i64 t.n) (.string ⟨t.s.toArray⟩) (.slice a1 t.keys.length c1) (.slice a2 t.l.length c2) ∧ Below w.heap.size w w1) := hidI ⟨box_bel hb1 (heap_alloc_new w _), bel_trans (bel_alloc _ _) hb1⟩
  clear hb1
  obtain ⟨y0, y1, y2, y3, y4, -⟩ := K1.out.1.c
  by_cases h1 : x ≤ 12
  · have q1 : (x : Int) ≤ 12 := by omega
    by_cases h2 : m ≤ 120
    · have q2 : (m : Int) ≤ 120 := by omega
      have HR : Hid (goodV t = shp t) := hidI (by rw [← HG.out, X.out, M.out]; simp [h1, h2])
      clear h1 h2
      go_wp2_with fail
      refine (rshaped_is _ ok t _ (by exact H.out.bel K1.out.2)).mono ?_
      rintro e w2 ⟨rfl, hb2⟩
      have B2 := hidI (bel_trans K1.out.2 hb2)
      clear hb2
      go_wp2_with fail
      go_ret
      exact ⟨by rw [HR.out]; rfl, B2.out⟩
    · have q2 : ¬ (m : Int) ≤ 120 := by omega
      have HR : Hid (goodV t = false) := hidI (by rw [← HG.out, X.out, M.out]; simp [h2])
      clear h1 h2
      go_wp2_with fail
      go_ret
      exact ⟨by rw [HR.out]; rfl, K1.out.2⟩
  · have q1 : ¬ (x : Int) ≤ 12 := by omega
    have HR : Hid (goodV t = false) := hidI (by rw [← HG.out, X.out, M.out]; simp [h1])
    clear h1
    go_wp2_with fail
    go_ret
    exact ⟨by rw [HR.out]; rfl, K1.out.2⟩
end Go.Proofs.YtaifciobaapehaaDoor

/- What MemberOf of package stairwellref does. -/
set_option linter.unusedSimpArgs false
set_option linter.unusedVariables false
namespace Go.Proofs.YtaifciobaapehaaDoor
open Go.RowKit

theorem idx_drop {key : List UInt8} {xs : List (List UInt8)} {k : Nat} (h : k < xs.length) (hne : xs[k] ≠ key) : (idxL key (xs.drop k)).map (· + k) = (idxL key (xs.drop (k + 1))).map (· + (k + 1)) := by
  rw [List.drop_eq_getElem_cons h, idxL, if_neg hne]
  cases idxL key (xs.drop (k + 1)) with
  | none => rfl
  | some i => simp; omega

set_option maxRecDepth 100000 in
set_option maxHeartbeats 40000000 in
theorem rmember_is (w : World) (ok : Nat → Prop) (t : V) (v : Value) (key : List UInt8) (h : In w ok t v) :
    Calls Tryd.prog 36 #[v, str key] w fun e w' => ∃ x, e = .returned (.tuple #[x, .bool (memV t key).isSome]) ∧ Below w.heap.size w w' ∧ In w' ok ((memV t key).getD zeroT) x := by
  have H := hidI h
  obtain ⟨l1, l2, l3⟩ := h.lens
  obtain ⟨a1, a2, c1, c2, rfl⟩ := h.form
  clear h
  unfold str
  have B2 : Hid (∀ o1 o2, Below w.heap.size w ((w.alloc o1).alloc o2)) := fun o1 o2 => bel_trans (bel_alloc _ _) (bel_alloc _ _)
  by_cases hk : t.kind = 5
  · have e0 : (t.kind != 5) = false := by rw [hk]; rfl
    by_cases hl : t.keys.length = t.l.length
    · have e1 : ((t.keys.length : Int) != (t.l.length : Int)) = false := by simp [hl]
      have HM : Hid (memV t key = (idxL key t.keys).bind fun i => t.l[i]?) := hidI (by simp [memV, findV, pairedV, hk, hl])
      have HL := hidI hl
      clear hk hl
      go_enter Tryd.func36, Tryd.ntmps36
      go_wp2_with fail
      go_loop [23] (fun i => ∃ k : Nat, k ≤ t.keys.length ∧ i = .int .i64 k ∧ Hid (idxL key t.keys = (idxL key (t.keys.drop k)).map (· + k))) (fun i => t.keys.length - (intOf i).toNat)
      case atStart => exact ⟨0, Nat.zero_le _, rfl, hidI (by simp)⟩
      case round =>
        obtain ⟨k, hk, rfl, HI⟩ := hrel
        by_cases hlt : k < t.keys.length
        · have hlt' : k < t.l.length := by have := HL.out; omega
          obtain ⟨kb, ko, rfl, j1, j2, jk, jl⟩ := H.out.key hlt
          obtain ⟨xb, xo, b5, d5, b6, d6, rfl, j3, j4, g0, g1, g2, g3, g4, g5⟩ := H.out.item hlt'
          have w1 : (0 : Int) ≤ (k : Int) := by omega
          have w2 : (k : Int) < (t.keys.length : Int) := by omega
          have w3 : (k : Int) < (t.l.length : Int) := by omega
          have hbb := B2.out (.cells #[.int .i64 t.kind, .int .i64 t.n, .string ⟨t.s.toArray⟩, .slice (some ⟨kb, ko, none⟩) t.keys.length c1, .slice (some ⟨xb, xo, none⟩) t.l.length c2] 25) (.cells #[.int .i64 0, .int .i64 0, .string ⟨#[]⟩, .slice none 0 0, .slice none 0 0] 25)
          replace jk := cell_bel hbb jk
          replace g0 := cell_bel hbb g0
          replace g1 := cell_bel hbb g1
          replace g2 := cell_bel hbb g2
          replace g3 := cell_bel hbb g3
          replace g4 := cell_bel hbb g4
          have G5 := hidI g5
          clear g5 hbb
          by_cases he : t.keys[k] = key
          · have e3 : (t.keys[k] == key) = true := by rw [beq_iff_eq]; exact he
            have HX : Hid (memV t key = some t.l[k]) := hidI (by
              rw [HM.out, HI.out, List.drop_eq_getElem_cons hlt, idxL, if_pos he]
              simp [List.getElem?_eq_getElem hlt'])
            clear he
            have BX := hidI (G5.out.bel (B2.out (.cells #[.int .i64 t.kind, .int .i64 t.n, .string ⟨t.s.toArray⟩, .slice (some ⟨kb, ko, none⟩) t.keys.length c1, .slice (some ⟨xb, xo, none⟩) t.l.length c2] 25) (.cells #[.int .i64 t.l[k].kind, .int .i64 t.l[k].n, .string ⟨t.l[k].s.toArray⟩, .slice b5 t.l[k].keys.length d5, .slice b6 t.l[k].l.length d6] 25)))
            go_wp2_with fail
            refine bodyPost_ret (v := .tuple #[.agg #[.int .i64 t.l[k].kind, .int .i64 t.l[k].n, .string ⟨t.l[k].s.toArray⟩, .slice b5 t.l[k].keys.length d5, .slice b6 t.l[k].l.length d6], .bool true]) ?_ rfl ?_
            · simp [results, Tryd.results36, go_sem]
            · exact ⟨_, by rw [HX.out]; rfl, B2.out _ _, by rw [HX.out]; exact BX.out⟩
          · have e3 : (t.keys[k] == key) = false := by rw [beq_eq_false_iff_ne]; exact he
            have HN : Hid (idxL key t.keys = (idxL key (t.keys.drop (k + 1))).map (· + (k + 1))) := hidI (by rw [HI.out, idx_drop hlt he])
            clear he
            go_wp2_with fail
            go_round
            case rel => exact ⟨k + 1, by omega, by go_num, HN⟩
            case measure => simp [intOf]; omega
        · have l1 : t.keys.drop k = [] := List.drop_eq_nil_of_le (by omega)
          have d1 : ¬ (k : Int) < (t.keys.length : Int) := by omega
          have HM2 : Hid (memV t key = none) := hidI (by rw [HM.out, HI.out, l1]; rfl)
          clear HM l1
          have HM := HM2
          go_wp2_with fail
          refine bodyPost_ret (v := .tuple #[.agg #[.int .i64 0, .int .i64 0, .string ⟨#[]⟩, .slice none 0 0, .slice none 0 0], .bool false]) ?_ rfl ?_
          · simp [results, Tryd.results36, go_sem]
          · exact ⟨_, by rw [HM.out]; rfl, B2.out _ _, by rw [HM.out]; exact in_zero _ _⟩
    · have e1 : ((t.keys.length : Int) != (t.l.length : Int)) = true := by rw [bne_iff_ne]; omega
      have HM : Hid (memV t key = none) := hidI (by simp [memV, findV, pairedV, hl])
      clear hk hl
      go_enter Tryd.func36, Tryd.ntmps36
      go_wp2_with fail
      refine bodyPost_ret (v := .tuple #[.agg #[.int .i64 0, .int .i64 0, .string ⟨#[]⟩, .slice none 0 0, .slice none 0 0], .bool false]) ?_ rfl ?_
      · simp [results, Tryd.results36, go_sem]
      · exact ⟨_, by rw [HM.out]; rfl, B2.out _ _, by rw [HM.out]; exact in_zero _ _⟩
  · have e0 : (t.kind != 5) = true := by rw [bne_iff_ne]; exact hk
    have HM : Hid (memV t key = none) := hidI (by simp [memV, findV, pairedV, hk])
    clear hk
    go_enter Tryd.func36, Tryd.ntmps36
    go_wp2_with fail
    refine bodyPost_ret (v := .tuple #[.agg #[.int .i64 0, .int .i64 0, .string ⟨#[]⟩, .slice none 0 0, .slice none 0 0], .bool false]) ?_ rfl ?_
    · simp [results, Tryd.results36, go_sem]
    · exact ⟨_, by rw [HM.out]; rfl, B2.out _ _, by rw [HM.out]; exact in_zero _ _⟩
end Go.Proofs.YtaifciobaapehaaDoor

/- A list of texts, copied: append onto nil. -/
set_option linter.unusedSimpArgs false
set_option linter.unusedVariables false
namespace Go.Proofs.YtaifciobaapehaaDoor
open Go.RowKit

theorem run_nil_nil (W : World) (ty : TypeId) : (Builtin.append_ #[22, 22] ty #[.slice none 0 0, .slice none 0 0]).run Tryd.prog W = .ok (.slice none 0 0) W := by
  obtain ⟨i0, hi, hz0, hz1, hz2⟩ := info_parts info9
  simp [Builtin.append_, run_underlying Tryd.underlying22, hi, go_sem]
theorem run_copyS (W : World) (ok : Nat → Prop) (xs : List (List UInt8)) (v : Value) (h : StrsAre W ok xs v) (hl : xs.length ≤ 8000000000000) (ty : TypeId) :
    ∃ v' W', (Builtin.append_ #[22, 22] ty #[.slice none 0 0, v]).run Tryd.prog W = .ok v' W' ∧ StrsAre W' (fun k => W.heap.size ≤ k) xs v' ∧ Below W.heap.size W W' := by
  obtain ⟨i0, hi, hz0, hz1, hz2⟩ := info_parts info9
  have hm := h.1
  have some_case : ∀ (ad : Addr) (c : Nat), (∀ j u, (xs.map str)[j]? = some u → W.cell? (ad.add j) = some u) → (∀ x ∈ xs, x.length ≤ maxLen) →
      ∃ v' W', (Builtin.append_ #[22, 22] ty #[.slice none 0 0, .slice (some ad) xs.length c]).run Tryd.prog W = .ok v' W' ∧ StrsAre W' (fun k => W.heap.size ≤ k) xs v' ∧ Below W.heap.size W W' := by
    intro ad c hc hx
    obtain ⟨v', W', hr, ho, hg, -, -⟩ := run_append_own_at (P := Tryd.prog) W W.heap.size 22 ty 9 i0 _ 1 16 Tryd.underlying22 hi hz0 hz1 hz2 rfl (by decide) (.slice none 0 0) 0 [] (World.ownsRow_nil _ _ _ _) ad xs.length c (xs.map str) (by simp) hc (by intro u hu; simp only [List.mem_map] at hu; obtain ⟨x, -, rfl⟩ := hu; rfl) (by omega) (by omega) (Nat.le_refl _)
    refine ⟨v', W', hr, own_strs (n := xs.length) rfl (by simpa using ho) hx (fun _ h => h) hm, ?_⟩
    exact gb_none (by simpa [Value.ownBlock] using hg)
  rcases h.2 with ⟨rfl, a, rfl⟩ | ⟨b, off, c, rfl, h1, h2, h3⟩
  · cases a with
    | none => exact ⟨_, _, run_nil_nil W ty, ⟨by simp, .inl ⟨rfl, none, rfl⟩⟩, Below.refl _ _⟩
    | some ad => exact some_case ad 0 (by simp) (by simp)
  · refine some_case ⟨b, off, none⟩ c ?_ ?_
    · intro j u hj
      rw [addr_add]
      simp only [List.getElem?_map, Option.map_eq_some_iff] at hj
      obtain ⟨x, hx, rfl⟩ := hj
      exact (h3 j x hx).2.2
    · intro x hx
      obtain ⟨i, hi⟩ := List.getElem?_of_mem hx
      exact (h3 i x hi).1
end Go.Proofs.YtaifciobaapehaaDoor

/- What CopyValue of package stairwellref does. -/
set_option linter.unusedSimpArgs false
set_option linter.unusedVariables false
namespace Go.Proofs.YtaifciobaapehaaDoor
open Go.RowKit
attribute [local go_sem ↓] Go.wp_at_zero Go.wp_at_succ

/- How much there is in a value: itself, its keys, its items. -/
def siz : V → Nat
  | ⟨_, _, _, ks, l⟩ => 1 + ks.length + (l.map siz).sum
def sizs (xs : List V) : Nat := (xs.map siz).sum
theorem sizs_cons (x : V) (xs : List V) : sizs (x :: xs) = siz x + sizs xs := by simp [sizs]
theorem siz_eq (t : V) : siz t = 1 + t.keys.length + sizs t.l := by cases t; rw [siz]; rfl
theorem sizs_mem {xs : List V} {x : V} (h : x ∈ xs) : siz x ≤ sizs xs := by
  induction xs with
  | nil => cases h
  | cons y xs ih =>
    rw [sizs_cons]
    rcases List.mem_cons.1 h with rfl | h
    · omega
    · have := ih h; omega
theorem sizs_len : ∀ (xs : List V), xs.length ≤ sizs xs
  | [] => Nat.le_refl _
  | x :: xs => by
    have := sizs_len xs
    have := siz_eq x
    rw [sizs_cons, List.length_cons]; omega
theorem cnts_sizs_of : ∀ (l : List V), (∀ x ∈ l, cnt x ≤ siz x) → cnts l ≤ sizs l
  | [], _ => by simp [cnts, sizs]
  | x :: l, h => by
    rw [cnts_cons, sizs_cons]
    have h1 := h x (by simp)
    have h2 := cnts_sizs_of l fun y hy => h y (by simp [hy])
    omega
theorem cnt_siz : ∀ (t : V), cnt t ≤ siz t
  | ⟨k, n, s, ks, l⟩ => by
    rw [cnt_eq, siz_eq]
    have h : ∀ x ∈ l, cnt x ≤ siz x := fun x hx => cnt_siz x
    have := cnts_sizs_of l h
    simp only
    omega
theorem box_sL {w : World} {g : Nat} {c0 c1 c2 c3 c4 : Value} (h : BoxIs w g c0 c1 c2 c3 c4) (v : Value) : BoxIs (w.setCell ⟨g, 4, none⟩ v) g c0 c1 c2 c3 v := heap_set h 4 v
theorem box_sK {w : World} {g : Nat} {c0 c1 c2 c3 c4 : Value} (h : BoxIs w g c0 c1 c2 c3 c4) (v : Value) : BoxIs (w.setCell ⟨g, 3, none⟩ v) g c0 c1 c2 v c4 := heap_set h 3 v
theorem step_V {w : World} {ops : Array Oper} {o : Oper} {a : Act} {K : Act → World → Prop} {Q : Exit → Act → World → Prop} {E : Prop} (hgd : o.guard = none) (s x : Operand)
    (ho : o.op = .call { callee := .builtin .append, args := #[s, x], argTypes := #[23, 23] }) (B : Nat) (v : Value) (n : Nat) (cs : List Value) (k m : Int) (ss : ByteArray) (a7 a8 : Option Addr) (l7 c7 l8 c8 : Nat) (hs : a.eval s = v)
    (hx : a.eval x = .slice (some ⟨w.heap.size, 0, none⟩) 1 1) (hown : w.ownsRow B 25 5 v n cs) (hB : B ≤ w.heap.size) (hl : n ≤ 1700000000000)
    (hK : ∀ g cap w', w'.ownsRow B 25 5 (.slice (some ⟨g, 0, none⟩) (n + 1) cap) (n + 1) (cs ++ [.int .i64 k, .int .i64 m, .string ss, .slice a7 l7 c7, .slice a8 l8 c8]) → (w.alloc (.cells #[.int .i64 k, .int .i64 m, .string ss, .slice a7 l7 c7, .slice a8 l8 c8] 25)).grownBy w' v.ownBlock → (v.ownBlock = some g ∨ w.heap.size < g) → K (a.put o.dst (.slice (some ⟨g, 0, none⟩) (n + 1) cap)) w') :
    if Region.wanted o (yielded ops a.tmps) = true then Oper.wp Tryd.prog o a (w.alloc (.cells #[.int .i64 k, .int .i64 m, .string ss, .slice a7 l7 c7, .slice a8 l8 c8] 25)) K Q else E := by
  obtain ⟨i0, hi, hz0, hz1, hz2⟩ := info_parts info25
  have hb : BoxIs (w.alloc (.cells #[.int .i64 k, .int .i64 m, .string ss, .slice a7 l7 c7, .slice a8 l8 c8] 25)) w.heap.size (.int .i64 k) (.int .i64 m) (.string ss) (.slice a7 l7 c7) (.slice a8 l8 c8) := heap_alloc_new w _
  refine step_append_lies _ hgd s x 23 ho B 25 i0 _ 5 80 Tryd.underlying23 hi hz0 hz1 hz2 rfl (by decide) v n cs hs (hown.alloc _) ⟨w.heap.size, 0, none⟩ 1 1 [.int .i64 k, .int .i64 m, .string ss, .slice a7 l7 c7, .slice a8 l8 c8] hx rfl (World.news_of_block (cs := #[.int .i64 k, .int .i64 m, .string ss, .slice a7 l7 c7, .slice a8 l8 c8]) hb) (one5 _ _ _ _ _ _ _ _ _) (by decide) (by unfold maxLen; omega) (by omega) (by simp; omega) (w.heap.size + 1) (by simp) ?_
  intro g cap w' ho' hg' hor _
  exact hK g cap w' ho' hg' (hor.imp id fun e => by omega)
/- On the way. -/
def CpI (w : World) (d : Nat) (t : V) (k : Nat) (wr : World) : Prop :=
  ∃ (ka la : Option Addr) (kc lc g0 : Nat) (cs : List Value), BoxIs wr w.heap.size (.int .i64 t.kind) (.int .i64 t.n) (.string ⟨t.s.toArray⟩) (.slice ka t.keys.length kc) (.slice la k lc) ∧ BoxIs wr (w.heap.size + 1) (.int .i64 0) (.int .i64 0) (.string ⟨#[]⟩) (.slice none 0 0) (.slice none 0 0) ∧ wr.ownsRow (w.heap.size + 2) 25 5 (.slice la k lc) k cs ∧ (((.slice la k lc : Value).ownBlock = none ∧ g0 ≤ wr.heap.size) ∨ (.slice la k lc : Value).ownBlock = some g0) ∧ RowV (VIs wr (fun j => w.heap.size + 2 ≤ j ∧ j ≠ g0) d) (t.l.take k) cs ∧ StrsAre wr (fun j => w.heap.size + 2 ≤ j ∧ j ≠ g0) t.keys (.slice ka t.keys.length kc) ∧ Below w.heap.size w wr
theorem StrsAre.bel2 {w w' : World} {ok ok' : Nat → Prop} {r : Option Nat} {xs : List (List UInt8)} {v : Value} (h : StrsAre w ok xs v) (hg : w.grownBy w' r) (hr : ∀ k, ok k → some k ≠ r) (hk : ∀ k, ok k → k < w.heap.size → ok' k) : StrsAre w' ok' xs v :=
  h.imp fun a x h1 h2 => ⟨hk _ h1 (World.block_lt_of_cell? w a h2), hg.cell h2 (hr _ h1)⟩
/- One more is copied. -/
theorem cp_mk {w w3 w4 : World} {d : Nat} {t y : V} {k : Nat} {ka la a7 a8 : Option Addr} {kc lc g0 c7 c8 g cap : Nat} {cs : List Value} (hk : k < t.l.length) (hy : y = t.l[k])
    (bx : BoxIs w3 w.heap.size (.int .i64 t.kind) (.int .i64 t.n) (.string ⟨t.s.toArray⟩) (.slice ka t.keys.length kc) (.slice la k lc)) (bz : BoxIs w3 (w.heap.size + 1) (.int .i64 0) (.int .i64 0) (.string ⟨#[]⟩) (.slice none 0 0) (.slice none 0 0)) (ho : w3.ownsRow (w.heap.size + 2) 25 5 (.slice la k lc) k cs) (hlv : (.slice la k lc : Value).ownBlock = none ∨ (.slice la k lc : Value).ownBlock = some g0)
    (hrow : RowV (VIs w3 (fun j => w.heap.size + 2 ≤ j ∧ j ≠ g0) d) (t.l.take k) cs) (hks : StrsAre w3 (fun j => w.heap.size + 2 ≤ j ∧ j ≠ g0) t.keys (.slice ka t.keys.length kc)) (hb : Below w.heap.size w w3)
    (hv : VIs w3 (fun j => w.heap.size + 2 ≤ j ∧ j ≠ g0) d y (.agg #[.int .i64 y.kind, .int .i64 y.n, .string ⟨y.s.toArray⟩, .slice a7 y.keys.length c7, .slice a8 y.l.length c8]))
    (ho4 : w4.ownsRow (w.heap.size + 2) 25 5 (.slice (some ⟨g, 0, none⟩) (k + 1) cap) (k + 1) (cs ++ [.int .i64 y.kind, .int .i64 y.n, .string ⟨y.s.toArray⟩, .slice a7 y.keys.length c7, .slice a8 y.l.length c8]))
    (hg4 : (w3.alloc (.cells #[.int .i64 y.kind, .int .i64 y.n, .string ⟨y.s.toArray⟩, .slice a7 y.keys.length c7, .slice a8 y.l.length c8] 25)).grownBy w4 (.slice la k lc : Value).ownBlock) (hgg : (.slice la k lc : Value).ownBlock = some g ∨ w3.heap.size < g) :
    CpI w d t (k + 1) (w4.setCell ⟨w.heap.size, 4, none⟩ (.slice (some ⟨g, 0, none⟩) (k + 1) cap)) := by
  have hlow : ∀ j, (.slice la k lc : Value).ownBlock = some j → w.heap.size + 2 ≤ j := fun j hj => (ho.lt j hj).1
  have g34 : w3.grownBy w4 (.slice la k lc : Value).ownBlock := gb_trans (World.grownBy_alloc w3 _ _) hg4
  have g5 : w4.grownBy (w4.setCell ⟨w.heap.size, 4, none⟩ (.slice (some ⟨g, 0, none⟩) (k + 1) cap)) (some w.heap.size) := gb_set (gb_refl _ _) _ _
  have ne : ∀ j, j < w.heap.size + 2 → some j ≠ (.slice la k lc : Value).ownBlock := fun j hj e => by have := hlow j e.symm; omega
  have neR : ∀ j, (fun j => w.heap.size + 2 ≤ j ∧ j ≠ g0) j → some j ≠ (.slice la k lc : Value).ownBlock := by
    intro j hj e
    rcases hlv with h0 | h0 <;> rw [h0] at e <;> simp at e
    exact hj.2 e
  have up : ∀ j, (fun j => w.heap.size + 2 ≤ j ∧ j ≠ g0) j → j < w3.heap.size → w.heap.size + 2 ≤ j ∧ j ≠ g := by
    intro j hj hlt
    refine ⟨hj.1, fun e => ?_⟩
    subst e
    rcases hgg with h0 | h0
    · rcases hlv with h2 | h2
      · rw [h2] at h0; cases h0
      · rw [h2] at h0; cases h0; exact hj.2 rfl
    · omega
  have conv : ∀ x v, VIs w3 (fun j => w.heap.size + 2 ≤ j ∧ j ≠ g0) d x v → VIs (w4.setCell ⟨w.heap.size, 4, none⟩ (.slice (some ⟨g, 0, none⟩) (k + 1) cap)) (fun j => w.heap.size + 2 ≤ j ∧ j ≠ g) d x v := by
    intro x v h
    have h1 := (h.below.grown g34 (fun j hj => neR j hj.1)).grown g5 (fun j hj e => by have := hj.1.1; simp at e; omega)
    exact h1.weak fun j hj => up j hj.1 hj.2
  refine ⟨ka, some ⟨g, 0, none⟩, kc, cap, g, _, box_sL (bx.grown g34 (ne _ (by omega))) _, (bz.grown g34 (ne _ (by omega))).grown g5 (by simp), own_kept' ho4 g5 (by omega), .inr rfl, ?_, ?_, ?_⟩
  · have rx : RowV (VIs (w4.setCell ⟨w.heap.size, 4, none⟩ (.slice (some ⟨g, 0, none⟩) (k + 1) cap)) (fun j => w.heap.size + 2 ≤ j ∧ j ≠ g) d) [y] [.int .i64 y.kind, .int .i64 y.n, .string ⟨y.s.toArray⟩, .slice a7 y.keys.length c7, .slice a8 y.l.length c8] := ⟨_, _, _, _, _, [], rfl, conv _ _ hv, rfl⟩
    rw [take_snocV hk, ← hy]
    exact rx.append (hrow.imp conv)
  · exact (hks.bel2 (ok' := fun j => w.heap.size + 2 ≤ j ∧ j ≠ g) g34 neR up).bel2 g5 (fun j hj e => by have := hj.1; simp at e; omega) (fun j hj _ => hj)
  · refine gb_none (gb_out (g := w.heap.size) ?_ g5 (Nat.le_refl _))
    have hbw : w.grownBy w3 none := gb_below hb
    exact ⟨g34.os.trans hb.os, g34.tape.trans hb.tape, g34.output.trans hb.output, Nat.le_trans hb.size g34.size, fun j hj _ => (g34.block j (Nat.lt_of_lt_of_le hj hb.size) (ne j (by omega))).trans (hb.block j hj)⟩

theorem fresh_ne {wr w3 : World} {B d k g0 : Nat} {la : Option Addr} {lc : Nat} {cs : List Value} {y : V} {yv : Value} (h : VIs w3 (fun j => wr.heap.size + 1 ≤ j) d y yv) (ho : wr.ownsRow (B + 2) 25 5 (.slice la k lc) k cs) (hlv : ((.slice la k lc : Value).ownBlock = none ∧ g0 ≤ wr.heap.size) ∨ (.slice la k lc : Value).ownBlock = some g0) (hB : B + 1 < wr.heap.size) : VIs w3 (fun j => B + 2 ≤ j ∧ j ≠ g0) d y yv := by
  refine h.weak fun j hj => ⟨by omega, fun e => ?_⟩
  subst e
  rcases hlv with h0 | h0
  · omega
  · have := (ho.lt _ h0).2; omega
def CpC (d : Nat) : Prop := ∀ (w : World) (ok : Nat → Prop) (t : V) (v : Value), VIs w ok d t v → siz t ≤ 1000000000000 →
    Calls Tryd.prog 6 #[v] w fun e w' => ∃ r, e = .returned r ∧ Below w.heap.size w w' ∧ VIs w' (fun k => w.heap.size ≤ k) d t r

set_option maxRecDepth 100000 in
set_option maxHeartbeats 40000000 in
theorem copyValue_succ (d : Nat) (ih : CpC d) : CpC (d + 1) := by
  intro w ok t v h hN
  have IH := hidI ih
  obtain ⟨a1, a2, c1, c2, rfl⟩ := h.shape
  have VV : Hid (ValsAre w ok (VIs w ok d) t.l (.slice a2 t.l.length c2) ∧ StrsAre w ok t.keys (.slice a1 t.keys.length c1) ∧ t.s.length ≤ maxLen ∧ I64 t.kind ∧ I64 t.n) := hidI (by
    obtain ⟨ks, ls, e, h1, h2, h3, h4, h5⟩ := h
    simp only [Value.agg.injEq, Array.mk.injEq, List.cons.injEq, and_true] at e
    obtain ⟨-, -, -, rfl, rfl⟩ := e
    exact ⟨h5, h4, h3, h1, h2⟩)
  have ll : t.l.length ≤ 9223372036854775807 := VV.out.1.1
  have lk : t.keys.length ≤ 9223372036854775807 := VV.out.2.1.1
  have z0 := siz_eq t
  have z1 := sizs_len t.l
  have zk : t.keys.length ≤ 8000000000000 := by omega
  have zl : t.l.length ≤ 1700000000000 := by omega
  have ZS : Hid (sizs t.l ≤ 1000000000000) := hidI (by omega)
  have B2 : Hid (∀ o1 o2, Below w.heap.size w ((w.alloc o1).alloc o2)) := fun o1 o2 => bel_trans (bel_alloc _ _) (bel_alloc _ _)
  obtain ⟨kv, w5, hR, hks, hb5⟩ := run_copyS ((w.alloc (.cells #[.int .i64 t.kind, .int .i64 t.n, .string ⟨t.s.toArray⟩, .slice a1 t.keys.length c1, .slice a2 t.l.length c2] 25)).alloc (.cells #[.int .i64 0, .int .i64 0, .string ⟨#[]⟩, .slice none 0 0, .slice none 0 0] 25)) ok t.keys _ (VV.out.2.1.bel (B2.out _ _)) zk 22
  have HR := hidI hR
  obtain ⟨ka, kc, rfl⟩ := hks.form
  have hsz : ((w.alloc (.cells #[.int .i64 t.kind, .int .i64 t.n, .string ⟨t.s.toArray⟩, .slice a1 t.keys.length c1, .slice a2 t.l.length c2] 25)).alloc (.cells #[.int .i64 0, .int .i64 0, .string ⟨#[]⟩, .slice none 0 0, .slice none 0 0] 25)).heap.size = w.heap.size + 2 := by simp
  have K5 : Hid (BoxIs w5 w.heap.size (.int .i64 t.kind) (.int .i64 t.n) (.string ⟨t.s.toArray⟩) (.slice a1 t.keys.length c1) (.slice a2 t.l.length c2) ∧ BoxIs w5 (w.heap.size + 1) (.int .i64 0) (.int .i64 0) (.string ⟨#[]⟩) (.slice none 0 0) (.slice none 0 0) ∧ Below w.heap.size w w5 ∧ StrsAre w5 (fun j => w.heap.size + 2 ≤ j) t.keys (.slice ka t.keys.length kc)) := hidI ⟨box_bel hb5 (h2a w _ _), box_bel hb5 (h2b w _ _), bel_trans (B2.out _ _) hb5, by rw [hsz] at hks; exact hks⟩
  clear h ih hN z0 z1 hR hks hb5 hsz
  have I0 : Hid (CpI w d t 0 ((w5.setCell ⟨w.heap.size, 3, none⟩ (.slice ka t.keys.length kc)).setCell ⟨w.heap.size, 4, none⟩ (.slice none 0 0))) := by
    obtain ⟨k1, k2, k3, k4⟩ := K5.out
    have g1 : w5.grownBy ((w5.setCell ⟨w.heap.size, 3, none⟩ (.slice ka t.keys.length kc)).setCell ⟨w.heap.size, 4, none⟩ (.slice none 0 0)) (some w.heap.size) := gb_set (gb_set (gb_refl _ _) _ _) _ _
    refine hidI ⟨ka, none, kc, 0, w5.heap.size, [], box_sL (box_sK k1 _) _, k2.grown g1 (by simp), World.ownsRow_nil _ _ _ _, .inl ⟨rfl, g1.size⟩, rfl, ?_, gb_none (gb_out (gb_below k3) g1 (Nat.le_refl _))⟩
    exact k4.bel2 g1 (fun j hj e => by simp at e; omega) (fun j hj hlt => ⟨hj, by omega⟩)
  obtain ⟨y0, y1, y2, y3, y4, y5, y6, y7, y8, y9⟩ := K5.out.1.c
  go_enter Tryd.func6, Tryd.ntmps6
  go_wp2_with (at_builtin; go_must (refine Lib.wpList_append_run _ rfl _ _ _ _ rfl (.slice none 0 0) (.slice a1 t.keys.length c1) rfl rfl _ _ HR.out ?_); refine Hid.out ?_)
  refine hidI ?_
  go_wp2_with fail
  clear y0 y1 y2 y3 y4 y5 y6 y7 y8 y9 HR
  go_loopg [15] t.l.length (fun gk i wr => ∃ k : Nat, k ≤ t.l.length ∧ gk = t.l.length - k ∧ i = .int .i64 k ∧ CpI w d t k wr)
  case atStart => exact ⟨0, Nat.zero_le _, rfl, rfl, I0.out⟩
  case round =>
    obtain ⟨k, hk, hgk, rfl, ka, la, kc, lc, g0, cs, i1, i2, i3, i4, i5, i6, i7⟩ := hrel
    have GK := hidI hgk
    have I : Hid (BoxIs wr w.heap.size (.int .i64 t.kind) (.int .i64 t.n) (.string ⟨t.s.toArray⟩) (.slice ka t.keys.length kc) (.slice la k lc) ∧ BoxIs wr (w.heap.size + 1) (.int .i64 0) (.int .i64 0) (.string ⟨#[]⟩) (.slice none 0 0) (.slice none 0 0) ∧ wr.ownsRow (w.heap.size + 2) 25 5 (.slice la k lc) k cs ∧ (((.slice la k lc : Value).ownBlock = none ∧ g0 ≤ wr.heap.size) ∨ (.slice la k lc : Value).ownBlock = some g0) ∧ RowV (VIs wr (fun j => w.heap.size + 2 ≤ j ∧ j ≠ g0) d) (t.l.take k) cs ∧ StrsAre wr (fun j => w.heap.size + 2 ≤ j ∧ j ≠ g0) t.keys (.slice ka t.keys.length kc) ∧ Below w.heap.size w wr) := hidI ⟨i1, i2, i3, i4, i5, i6, i7⟩
    clear hgk i1 i2 i3 i4 i5 i6 i7
    by_cases hlt : k < t.l.length
    · obtain ⟨b, off, rfl, z1, z2, a5, c5, a6, c6, p0, p1, p2, p3, p4, p5⟩ := vals_at VV.out.1 hlt
      unfold maxLen at z2
      replace p0 := cell_bel I.out.2.2.2.2.2.2 p0
      replace p1 := cell_bel I.out.2.2.2.2.2.2 p1
      replace p2 := cell_bel I.out.2.2.2.2.2.2 p2
      replace p3 := cell_bel I.out.2.2.2.2.2.2 p3
      replace p4 := cell_bel I.out.2.2.2.2.2.2 p4
      have P5 := hidI (p5.bel I.out.2.2.2.2.2.2)
      have w1 : (0 : Int) ≤ (k : Int) := by omega
      have w2 : (k : Int) < (t.l.length : Int) := by omega
      have zx : Hid (siz t.l[k] ≤ 1000000000000) := hidI (by have := sizs_mem (List.getElem_mem hlt); have := ZS.out; omega)
      have call : Hid (∀ W, W.heap = (wr.alloc (.cells #[.int .i64 t.l[k].kind, .int .i64 t.l[k].n, .string ⟨t.l[k].s.toArray⟩, .slice a5 t.l[k].keys.length c5, .slice a6 t.l[k].l.length c6] 25)).heap → W.os = wr.os → W.tape = wr.tape → W.output = wr.output → Calls Tryd.prog 6 #[.agg #[.int .i64 t.l[k].kind, .int .i64 t.l[k].n, .string ⟨t.l[k].s.toArray⟩, .slice a5 t.l[k].keys.length c5, .slice a6 t.l[k].l.length c6]] W fun e w3 => ∃ (a7 a8 : Option Addr) (c7 c8 : Nat), e = .returned (.agg #[.int .i64 t.l[k].kind, .int .i64 t.l[k].n, .string ⟨t.l[k].s.toArray⟩, .slice a7 t.l[k].keys.length c7, .slice a8 t.l[k].l.length c8]) ∧ VIs w3 (fun j => wr.heap.size + 1 ≤ j) d t.l[k] (.agg #[.int .i64 t.l[k].kind, .int .i64 t.l[k].n, .string ⟨t.l[k].s.toArray⟩, .slice a7 t.l[k].keys.length c7, .slice a8 t.l[k].l.length c8]) ∧ Below wr.heap.size wr w3) := by
        intro W e1 e2 e3 e4
        have hbW : Below wr.heap.size wr W := by
          have := bel_alloc wr (.cells #[.int .i64 t.l[k].kind, .int .i64 t.l[k].n, .string ⟨t.l[k].s.toArray⟩, .slice a5 t.l[k].keys.length c5, .slice a6 t.l[k].l.length c6] 25)
          exact ⟨e2, e3, e4, by rw [e1]; exact this.size, fun k hk => by rw [e1]; exact this.block k hk⟩
        have hsz : W.heap.size = wr.heap.size + 1 := by rw [e1]; simp
        refine (IH.out W ok t.l[k] _ (P5.out.bel hbW) zx.out).mono ?_
        rintro e w3 ⟨r, rfl, hb, hr⟩
        obtain ⟨a7, a8, c7, c8, rfl⟩ := hr.shape
        rw [hsz] at hr
        exact ⟨a7, a8, c7, c8, rfl, hr, bel_trans hbW hb⟩
      have q4 := (box_bel (bel_alloc wr (.cells #[.int .i64 t.l[k].kind, .int .i64 t.l[k].n, .string ⟨t.l[k].s.toArray⟩, .slice a5 t.l[k].keys.length c5, .slice a6 t.l[k].l.length c6] 25)) I.out.1).c.2.2.2.2.1
      have hnl : k ≤ 1700000000000 := by omega
      clear p5
      go_wp2_with fail
      go_region_law ((first | (refine step_V (by rfl) _ _ (by rfl) (w.heap.size + 2) (.slice la k lc) k cs t.l[k].kind t.l[k].n ⟨t.l[k].s.toArray⟩ a7 a8 t.l[k].keys.length c7 t.l[k].l.length c8 (by rfl) (by rfl) K3.out.2.2.1 hsz3 hnl ?_; intro g cap w4 ho4 hg4 hgg4; obtain ⟨x0, x1, x2, x3, x4, -, -, -, -, x9⟩ := ((K3.out.1.grown (World.grownBy_alloc _ _ none) (by simp)).grown hg4 (ne3.out _ (by omega))).c; have CM := hidI (cp_mk hlt rfl K3.out.1 K3.out.2.1 K3.out.2.2.1 (K3.out.2.2.2.1.imp And.left id) K3.out.2.2.2.2.1 K3.out.2.2.2.2.2.1 K3.out.2.2.2.2.2.2 V3.out ho4 hg4 hgg4); clear ho4 hg4 hgg4) | (go_simp; go_at_call 6; refine (call.out _ (by rfl) (by rfl) (by rfl) (by rfl)).mono ?_; rintro e w3 ⟨a7, a8, c7, c8, rfl, hv3, hb3⟩; have V3 : Hid (VIs w3 (fun j => w.heap.size + 2 ≤ j ∧ j ≠ g0) d t.l[k] (.agg #[.int .i64 t.l[k].kind, .int .i64 t.l[k].n, .string ⟨t.l[k].s.toArray⟩, .slice a7 t.l[k].keys.length c7, .slice a8 t.l[k].l.length c8])) := hidI (fresh_ne hv3 I.out.2.2.1 I.out.2.2.2.1 I.out.2.1.lt); have K3 : Hid (BoxIs w3 w.heap.size (.int .i64 t.kind) (.int .i64 t.n) (.string ⟨t.s.toArray⟩) (.slice ka t.keys.length kc) (.slice la k lc) ∧ BoxIs w3 (w.heap.size + 1) (.int .i64 0) (.int .i64 0) (.string ⟨#[]⟩) (.slice none 0 0) (.slice none 0 0) ∧ w3.ownsRow (w.heap.size + 2) 25 5 (.slice la k lc) k cs ∧ (((.slice la k lc : Value).ownBlock = none ∧ g0 ≤ wr.heap.size) ∨ (.slice la k lc : Value).ownBlock = some g0) ∧ RowV (VIs w3 (fun j => w.heap.size + 2 ≤ j ∧ j ≠ g0) d) (t.l.take k) cs ∧ StrsAre w3 (fun j => w.heap.size + 2 ≤ j ∧ j ≠ g0) t.keys (.slice ka t.keys.length kc) ∧ Below w.heap.size w w3) := hidI ⟨box_bel hb3 I.out.1, box_bel hb3 I.out.2.1, I.out.2.2.1.kept (gb_below (r := none) hb3) (by cases (.slice la k lc : Value).ownBlock <;> simp), I.out.2.2.2.1, I.out.2.2.2.2.1.imp fun _ _ h => h.bel hb3, I.out.2.2.2.2.2.1.bel hb3, bel_trans I.out.2.2.2.2.2.2 hb3⟩; have hsz3 : w.heap.size + 2 ≤ w3.heap.size := Nat.le_trans I.out.2.1.lt hb3.size; have ne3 : Hid (∀ j, j < w.heap.size + 2 → some j ≠ (.slice la k lc : Value).ownBlock) := hidI (fun j hj e => by have := (K3.out.2.2.1.lt j e.symm).1; omega); have r4 := K3.out.1.c.2.2.2.2.1; have r5 : ∀ o, (w3.alloc o).cell? ⟨w.heap.size, 4, none⟩ = some (.slice la k lc) := fun o => (box_bel (bel_alloc w3 o) K3.out.1).c.2.2.2.2.1; clear hv3 hb3)))
      all_goals
        go_wp2_with fail
        go_roundg (t.l.length - (k + 1))
        case measure => rw [GK.out]; omega
        case rel => exact ⟨k + 1, hlt, rfl, by go_num, CM.out⟩
    · have hke : k = t.l.length := by omega
      subst hke
      have d1 : ¬ (t.l.length : Int) < (t.l.length : Int) := by omega
      obtain ⟨y0, y1, y2, y3, y4, -⟩ := I.out.1.c
      obtain ⟨z0, z1, z2, z3, z4, z5, z6, z7, z8, z9⟩ := I.out.2.1.c
      have gs := set5_gb wr (w.heap.size + 1) (.int .i64 t.kind) (.int .i64 t.n) (.string ⟨t.s.toArray⟩) (.slice ka t.keys.length kc) (.slice la t.l.length lc)
      have ZB : Hid _ := hidI (I.out.2.1.set (.int .i64 t.kind) (.int .i64 t.n) (.string ⟨t.s.toArray⟩) (.slice ka t.keys.length kc) (.slice la t.l.length lc))
      have Z : Hid (Below w.heap.size w (set5 wr (w.heap.size + 1) (.int .i64 t.kind) (.int .i64 t.n) (.string ⟨t.s.toArray⟩) (.slice ka t.keys.length kc) (.slice la t.l.length lc)) ∧ VIs (set5 wr (w.heap.size + 1) (.int .i64 t.kind) (.int .i64 t.n) (.string ⟨t.s.toArray⟩) (.slice ka t.keys.length kc) (.slice la t.l.length lc)) (fun j => w.heap.size ≤ j) (d + 1) t (.agg #[.int .i64 t.kind, .int .i64 t.n, .string ⟨t.s.toArray⟩, .slice ka t.keys.length kc, .slice la t.l.length lc])) := by
        obtain ⟨k1, k2, k3, k4, k5, k6, k7⟩ := I.out
        refine hidI ⟨bel_set5 k7 (by omega) _ _ _ _ _, _, _, rfl, VV.out.2.2.2.1, VV.out.2.2.2.2, VV.out.2.2.1, ?_, ?_⟩
        · exact k6.bel2 gs (fun j hj e => by have := hj.1; simp at e; omega) (fun j hj _ => by have := hj.1; omega)
        · rw [List.take_of_length_le (Nat.le_refl _)] at k5
          exact own_vals rfl (own_kept' k3 gs (by omega)) (k5.imp fun x v h => (h.grown gs (fun j hj e => by have := hj.1; simp at e; omega)).weak fun j hj => by have := hj.1; omega) (fun j hj => by omega) ll
      clear gs
      go_wp2_with fail
      obtain ⟨q0, q1, q2, q3, q4, -⟩ := ZB.out.c
      refine bodyPost_ret (v := .agg #[.int .i64 t.kind, .int .i64 t.n, .string ⟨t.s.toArray⟩, .slice ka t.keys.length kc, .slice la t.l.length lc]) ?_ rfl ?_
      · simp only [set5] at q0 q1 q2 q3 q4
        simp [results, Tryd.results6, go_sem, q0, q1, q2, q3, q4]
      · exact ⟨_, rfl, Z.out.1, Z.out.2⟩
theorem copyValue_all (d : Nat) : CpC d := by
  induction d with
  | zero => exact fun _ _ _ _ h => h.elim
  | succ d ih => exact copyValue_succ d ih
end Go.Proofs.YtaifciobaapehaaDoor

set_option linter.unusedSimpArgs false
set_option linter.unusedVariables false
namespace Go.Proofs.YtaifciobaapehaaDoor
open Go.RowKit

theorem rcopy_is (w : World) (ok : Nat → Prop) (t : V) (v : Value) (h : In w ok t v) (hN : siz t ≤ 1000000000000) :
    Calls Tryd.prog 6 #[v] w fun e w' => ∃ r, e = .returned r ∧ Below w.heap.size w w' ∧ In w' (fun k => w.heap.size ≤ k) t r := by
  obtain ⟨d, h⟩ := h
  refine (copyValue_all d w ok t v h hN).mono ?_
  rintro e w' ⟨r, rfl, hb, hr⟩
  exact ⟨r, rfl, hb, hr.is⟩
end Go.Proofs.YtaifciobaapehaaDoor

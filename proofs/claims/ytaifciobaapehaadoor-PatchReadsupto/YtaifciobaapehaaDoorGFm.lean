/- What MemberOf of package stairwellref does. -/
import Derived.Test.YtaifciobaapehaaDoorXz
import Derived.Deep.AppendLies
import Derived.Laws.IdiomStrings
import Derived.Shelf.SlSortCmp.QuietGrown
import Derived.Test.YtaifciobaapehaaDoorTp
import Derived.Deep.CutBlock
import Derived.Deep.DrawnRows
/- How many values there are in one; lists of values in memory. -/
set_option linter.unusedSimpArgs false
set_option linter.unusedVariables false
namespace Go.Proofs.YtaifciobaapehaaDoor
open Go.RowKit

/- How many values there are in one. -/
def cnt : V → Nat
  | ⟨_, _, _, _, l⟩ => 1 + (l.map cnt).sum
def cnts (xs : List V) : Nat := (xs.map cnt).sum
theorem cnts_nil : cnts [] = 0 := rfl
theorem cnts_cons (x : V) (xs : List V) : cnts (x :: xs) = cnt x + cnts xs := by simp [cnts]
theorem cnt_eq (t : V) : cnt t = 1 + cnts t.l := by cases t; rw [cnt]; rfl
theorem cnts_drop {xs : List V} {k : Nat} (h : k < xs.length) : cnts (xs.drop k) = cnt xs[k] + cnts (xs.drop (k + 1)) := by
  rw [List.drop_eq_getElem_cons h, cnts_cons]
theorem cnts_len : ∀ (xs : List V), xs.length ≤ cnts xs
  | [] => Nat.le_refl _
  | x :: xs => by
    have := cnts_len xs
    have := cnt_eq x
    rw [cnts_cons, List.length_cons]; omega
theorem cnts_mem {xs : List V} {x : V} (h : x ∈ xs) : cnt x ≤ cnts xs := by
  induction xs with
  | nil => cases h
  | cons y xs ih =>
    rw [cnts_cons]
    rcases List.mem_cons.1 h with rfl | h
    · omega
    · have := ih h; omega
theorem cnt_sz (D : Nat) : ∀ (t : V), GoodT D t → cnt t = szD D t := by
  induction D with
  | zero => intro t h; exact h.elim
  | succ D ih =>
    intro t h
    rw [cnt_eq, szD]
    congr 1
    obtain ⟨-, h⟩ := h
    generalize t.l = l at h
    induction l with
    | nil => rfl
    | cons y l ihl =>
      rw [cnts_cons, ih y (h y (by simp)), ihl fun x hx => h x (by simp [hx])]; simp
theorem nice_cnt {t : V} (h : Nice t) : cnt t ≤ 120 := by
  obtain ⟨D, h1, h2⟩ := h
  rw [cnt_sz D t h1]; exact h2
/- How much waits. -/
def mu (ls : List (List V)) : Nat := (ls.map fun l => 1 + cnts l).sum
theorem mu_push (ls : List (List V)) (l : List V) : mu (ls ++ [l]) = mu ls + (1 + cnts l) := by simp [mu]
theorem mu_len (ls : List (List V)) : ls.length ≤ mu ls := by
  unfold mu
  induction ls with
  | nil => simp
  | cons l ls ih => simp only [List.map_cons, List.sum_cons, List.length_cons]; omega

/- A list of values in memory, whatever their depth. -/
def ValsIn (w : World) (ok : Nat → Prop) (xs : List V) (v : Value) : Prop := In w ok ⟨0, 0, [], [], xs⟩ (.agg #[.int .i64 0, .int .i64 0, .string ⟨#[]⟩, .slice none 0 0, v])
theorem ValsIn.bel {w w' : World} {ok : Nat → Prop} {xs : List V} {v : Value} (h : ValsIn w ok xs v) (hb : Below w.heap.size w w') : ValsIn w' ok xs v := In.bel h hb
theorem ValsIn.weak {w : World} {ok ok' : Nat → Prop} {xs : List V} {v : Value} (h : ValsIn w ok xs v) (hk : ∀ k, ok k → ok' k) : ValsIn w ok' xs v := In.weak h hk
theorem ValsIn.grown {w w' : World} {ok : Nat → Prop} {g : Nat} {xs : List V} {v : Value} (h : ValsIn w ok xs v) (hg : w.grownBy w' (some g)) (hr : ∀ k, ok k → k ≠ g) : ValsIn w' ok xs v := In.grown h hg hr
theorem ValsIn.form {w : World} {ok : Nat → Prop} {xs : List V} {v : Value} (h : ValsIn w ok xs v) : ∃ a c, v = .slice a xs.length c := by
  obtain ⟨a7, a8, c7, c8, e⟩ := In.form h
  simp only [Value.agg.injEq, Array.mk.injEq, List.cons.injEq, and_true] at e
  exact ⟨a8, c8, e.2.2.2.2⟩
theorem ValsIn.len {w : World} {ok : Nat → Prop} {xs : List V} {v : Value} (h : ValsIn w ok xs v) : xs.length ≤ 9223372036854775807 := (In.lens h).2.1
theorem In.vals {w : World} {ok : Nat → Prop} {t : V} {k n s ks ls : Value} (h : In w ok t (.agg #[k, n, s, ks, ls])) : ValsIn w ok t.l ls := by
  obtain ⟨d, h⟩ := h.at
  obtain ⟨ks', ls', e, -, -, -, -, h5⟩ := h
  simp only [Value.agg.injEq, Array.mk.injEq, List.cons.injEq, and_true] at e
  obtain ⟨-, -, -, -, rfl⟩ := e
  exact ⟨d + 1, _, _, rfl, by unfold I64; simp, by unfold I64; simp, by simp [maxLen], ⟨by simp [maxLen], .inl ⟨rfl, none, rfl⟩⟩, h5⟩
theorem ValsIn.item {w : World} {ok : Nat → Prop} {xs : List V} {a : Option Addr} {m c i : Nat} (h : ValsIn w ok xs (.slice a m c)) (hi : i < xs.length) :
    ∃ b off a5 c5 a6 c6, a = some ⟨b, off, none⟩ ∧ xs.length ≤ c ∧ c ≤ 9223372036854775807 ∧ w.cell? ⟨b, off + i * 5, none⟩ = some (.int .i64 xs[i].kind) ∧ w.cell? ⟨b, off + i * 5 + 1, none⟩ = some (.int .i64 xs[i].n) ∧ w.cell? ⟨b, off + i * 5 + 2, none⟩ = some (.string ⟨xs[i].s.toArray⟩) ∧
      w.cell? ⟨b, off + i * 5 + 3, none⟩ = some (.slice a5 xs[i].keys.length c5) ∧ w.cell? ⟨b, off + i * 5 + 4, none⟩ = some (.slice a6 xs[i].l.length c6) ∧ In w ok xs[i] (.agg #[.int .i64 xs[i].kind, .int .i64 xs[i].n, .string ⟨xs[i].s.toArray⟩, .slice a5 xs[i].keys.length c5, .slice a6 xs[i].l.length c6]) :=
  In.item h hi
theorem ValsIn.blk {w : World} {ok : Nat → Prop} {xs : List V} {b off m c i : Nat} (h : ValsIn w ok xs (.slice (some ⟨b, off, none⟩) m c)) (hi : i < xs.length) : ok b := by
  obtain ⟨d, h⟩ := In.at h
  obtain ⟨ks', ls, e, -, -, -, -, h5⟩ := h
  simp only [Value.agg.injEq, Array.mk.injEq, List.cons.injEq, and_true] at e
  obtain ⟨-, -, -, -, rfl⟩ := e
  obtain ⟨-, h5⟩ := h5
  rcases h5 with ⟨e, _⟩ | ⟨b', off', c', e, h1, h2, hcs⟩
  · simp only at e; rw [e] at hi; simp at hi
  · simp only [Value.slice.injEq, Option.some.injEq, Addr.mk.injEq] at e
    obtain ⟨⟨rfl, -, -⟩, -, -⟩ := e
    obtain ⟨_, _, _, _, _, g, _⟩ := hcs i xs[i] (List.getElem?_eq_getElem hi)
    exact g
/- A list of one, in a block of its own. -/
theorem vals_one {w : World} {ok : Nat → Prop} {t : V} {g : Nat} {c0 c1 c2 c3 c4 : Value} (h : In w ok t (.agg #[c0, c1, c2, c3, c4])) (hb : BoxIs w g c0 c1 c2 c3 c4) (hok : ok g) : ValsIn w ok [t] (.slice (some ⟨g, 0, none⟩) 1 1) := by
  obtain ⟨d, h⟩ := h
  obtain ⟨b0, b1, b2, b3, b4, -⟩ := hb.c
  refine ⟨d + 1, _, _, rfl, by unfold I64; simp, by unfold I64; simp, by simp [maxLen], ⟨by simp [maxLen], .inl ⟨rfl, none, rfl⟩⟩, by simp [maxLen], .inr ⟨g, 0, 1, rfl, by simp, by simp [maxLen], ?_⟩⟩
  intro i x hx
  cases i with
  | zero =>
    simp only [List.getElem?_cons_zero, Option.some.injEq] at hx
    subst hx
    exact ⟨c0, c1, c2, c3, c4, hok, by simpa using b0, by simpa using b1, by simpa using b2, by simpa using b3, by simpa using b4, h⟩
  | succ i => simp at hx
end Go.Proofs.YtaifciobaapehaaDoor

/- Depth, number and form of values, as the reference tells them; what is good. -/
set_option linter.unusedSimpArgs false
set_option linter.unusedVariables false
namespace Go.Proofs.YtaifciobaapehaaDoor
open Go.RowKit

/- The greatest of a list. -/
def top (l : List Nat) : Nat := l.foldr max 0
def dpt : V → Nat
  | ⟨_, _, _, _, l⟩ => top (l.map dpt) + 1
def dpts (xs : List V) : Nat := top (xs.map dpt)
theorem dpts_nil : dpts [] = 0 := rfl
theorem dpts_cons (x : V) (xs : List V) : dpts (x :: xs) = max (dpt x) (dpts xs) := by simp [dpts, top]
def shp : V → Bool
  | ⟨k, n, s, ks, l⟩ => shapedB ⟨k, n, s, ks, l⟩ && (l.map shp).all id
def shps (xs : List V) : Bool := (xs.map shp).all id
theorem shps_nil : shps [] = true := rfl
theorem shps_cons (x : V) (xs : List V) : shps (x :: xs) = (shp x && shps xs) := by simp [shps]
theorem dpt_eq (t : V) : dpt t = dpts t.l + 1 := by cases t; rw [dpt]; rfl
theorem shp_eq (t : V) : shp t = (shapedB t && shps t.l) := by cases t; rw [shp]; rfl
theorem dpts_snoc (x : V) : ∀ (xs : List V), dpts (xs ++ [x]) = max (dpts xs) (dpt x)
  | [] => by simp [dpts_nil, dpts_cons]
  | y :: xs => by rw [List.cons_append, dpts_cons, dpts_cons, dpts_snoc x xs]; omega
theorem cnts_snoc (x : V) : ∀ (xs : List V), cnts (xs ++ [x]) = cnts xs + cnt x
  | [] => by simp [cnts_nil, cnts_cons]
  | y :: xs => by rw [List.cons_append, cnts_cons, cnts_cons, cnts_snoc x xs]; omega
theorem shps_snoc (x : V) : ∀ (xs : List V), shps (xs ++ [x]) = (shps xs && shp x)
  | [] => by simp [shps_nil, shps_cons]
  | y :: xs => by rw [List.cons_append, shps_cons, shps_cons, shps_snoc x xs, Bool.and_assoc]
theorem take_snocV {xs : List V} {k : Nat} (h : k < xs.length) : xs.take (k + 1) = xs.take k ++ [xs[k]] := List.take_succ_eq_append_getElem h
theorem cnts_take {xs : List V} (k : Nat) : cnts (xs.take k) ≤ cnts xs := by
  induction xs generalizing k with
  | nil => simp [cnts_nil]
  | cons x xs ih =>
    cases k with
    | zero => simp [cnts_nil]
    | succ k => rw [List.take_succ_cons, cnts_cons, cnts_cons]; have := ih k; omega
theorem dpts_mem {xs : List V} {x : V} (h : x ∈ xs) : dpt x ≤ dpts xs := by
  induction xs with
  | nil => cases h
  | cons y xs ih =>
    rw [dpts_cons]
    rcases List.mem_cons.1 h with rfl | h
    · omega
    · have := ih h; omega
theorem dpts_le {xs : List V} {D : Nat} (h : ∀ x ∈ xs, dpt x ≤ D) : dpts xs ≤ D := by
  induction xs with
  | nil => simp [dpts_nil]
  | cons y xs ih =>
    rw [dpts_cons]
    have h1 := h y (by simp)
    have h2 := ih fun x hx => h x (by simp [hx])
    omega
theorem shps_iff {xs : List V} : shps xs = true ↔ ∀ x ∈ xs, shp x = true := by
  induction xs with
  | nil => simp [shps_nil]
  | cons y xs ih => rw [shps_cons, Bool.and_eq_true, ih]; simp
theorem dpts_cnt_of : ∀ (l : List V), (∀ x ∈ l, dpt x ≤ cnt x) → dpts l ≤ cnts l
  | [], _ => by simp [dpts_nil, cnts_nil]
  | x :: l, h => by
    rw [dpts_cons, cnts_cons]
    have h1 := h x (by simp)
    have h2 := dpts_cnt_of l fun y hy => h y (by simp [hy])
    omega
theorem dpt_cnt : ∀ (t : V), dpt t ≤ cnt t
  | ⟨k, n, s, ks, l⟩ => by
    rw [dpt_eq, cnt_eq]
    have h : ∀ x ∈ l, dpt x ≤ cnt x := fun x hx => dpt_cnt x
    have := dpts_cnt_of l h
    simp only
    omega
theorem dpts_cnt (l : List V) : dpts l ≤ cnts l := dpts_cnt_of l fun x _ => dpt_cnt x
theorem goodT_iff (D : Nat) : ∀ (t : V), GoodT D t ↔ shp t = true ∧ dpt t ≤ D := by
  induction D with
  | zero => intro t; rw [dpt_eq]; simp [GoodT]
  | succ D ih =>
    intro t
    rw [shp_eq, dpt_eq, Bool.and_eq_true, shps_iff]
    constructor
    · rintro ⟨h1, h2⟩
      refine ⟨⟨h1, fun x hx => ((ih x).1 (h2 x hx)).1⟩, ?_⟩
      have := dpts_le (D := D) fun x hx => ((ih x).1 (h2 x hx)).2
      omega
    · rintro ⟨⟨h1, h2⟩, h3⟩
      exact ⟨h1, fun x hx => (ih x).2 ⟨h2 x hx, by have := dpts_mem hx; omega⟩⟩
/- What GoodValue answers is what Good answers. -/
theorem good_ref (t : V) : (decide (dpt t ≤ 12) && decide (cnt t ≤ 120) && shp t) = goodV t := by
  rw [Bool.eq_iff_iff, good_iff, goodT_iff]
  simp only [Bool.and_eq_true, decide_eq_true_eq]
  constructor
  · rintro ⟨⟨h1, h2⟩, h3⟩
    exact ⟨⟨h3, h1⟩, by rw [← cnt_sz 12 t ((goodT_iff 12 t).2 ⟨h3, h1⟩)]; exact h2⟩
  · rintro ⟨⟨h3, h1⟩, h2⟩
    exact ⟨⟨h1, by rw [cnt_sz 12 t ((goodT_iff 12 t).2 ⟨h3, h1⟩)]; exact h2⟩, h3⟩
end Go.Proofs.YtaifciobaapehaaDoor

/- What ascii of package stairwellref does. -/
set_option linter.unusedSimpArgs false
set_option linter.unusedVariables false
namespace Go.Proofs.YtaifciobaapehaaDoor
open Go.RowKit

/- The bytes of a text, as a list of their own. -/
theorem bytes_of (w : World) (s : List UInt8) (hs : s.length ≤ 9223372036854775807) :
    ∃ cap W2, (convert 9 94 (.string ⟨s.toArray⟩)).run Tryd.prog w = .ok (.slice (some ⟨w.heap.size, 0, none⟩) s.length cap) W2 ∧ s.length ≤ cap ∧ cap ≤ 9223372036854775807 ∧
      (∀ (j : Nat) (h : j < s.length), W2.cell? ⟨w.heap.size, j, none⟩ = some (.int .u8 (s[j].toNat : Int))) ∧ ∃ os, W2 = Go.Sort.grow (w.drewN 1) os := by
  have h := run_bytes_of_string (P := Tryd.prog) w 9 94 5 ⟨s.toArray⟩ Tryd.underlying9 Tryd.underlying94 Tryd.underlying5
  have hz : (ByteArray.mk s.toArray).size = s.length := by simp [ByteArray.size]
  rw [hz] at h
  refine ⟨_, _, h, grownCap_ge _ _ _ _, grownCap_le_maxLen _ _ _ _ hs, ?_, ?_⟩
  · intro j hj
    have hb : (w.drew.alloc (.cells (bytesRow ⟨s.toArray⟩ (grownCap w s.length 0 5)) 5 ((bytesRow ⟨s.toArray⟩ (grownCap w s.length 0 5)).size, (bytesRow ⟨s.toArray⟩ (grownCap w s.length 0 5)).size + 1))).heap[w.heap.size]? = some (.cells (bytesRow ⟨s.toArray⟩ (grownCap w s.length 0 5)) 5 ((bytesRow ⟨s.toArray⟩ (grownCap w s.length 0 5)).size, (bytesRow ⟨s.toArray⟩ (grownCap w s.length 0 5)).size + 1)) := heap_alloc_new w.drew _
    have hr := bytesRow_at ⟨s.toArray⟩ (grownCap w s.length 0 5) j (by simpa using hj)
    simp only [World.cell?, hb]
    simpa using hr
  · exact ⟨_, Go.Sort.alloc_eq_grow w.drew _⟩
theorem bel_grow (w : World) (n : Nat) (os : Array Obj) : Below w.heap.size w (Go.Sort.grow (w.drewN n) os) := by
  refine ⟨rfl, rfl, rfl, by simp [Go.Sort.grow, World.drewN], fun k hk => ?_⟩
  show (w.heap ++ os)[k]? = w.heap[k]?
  rw [Array.getElem?_append_left hk]
theorem plain_eq (s : List UInt8) : plainB s = (decide (s.length ≤ 60) && s.all fun c => decide (c.toNat < 128)) := rfl

set_option maxRecDepth 100000 in
set_option maxHeartbeats 8000000 in
theorem ascii_gr (w : World) (s : List UInt8) (hs : s.length ≤ 9223372036854775807) :
    Calls Tryd.prog 68 #[str s] w fun e w' => e = .returned (.bool (plainB s)) ∧ ∃ q os, w' = Go.Sort.grow (w.drewN q) os := by
  unfold str
  obtain ⟨cap, W2, hcv, h1, h2, h3, h4⟩ := bytes_of w s hs
  have HC := hidI h3
  have HB : Hid (∃ q os, W2 = Go.Sort.grow (w.drewN q) os) := hidI ⟨1, h4⟩
  clear h3 h4
  go_enter Tryd.func68, Tryd.ntmps68
  go_wp2_with fail
  clear hcv
  go_loop [8] (fun i => ∃ k : Nat, k ≤ s.length ∧ i = .int .i64 k ∧ Hid ((s.take k).all (fun c => decide (c.toNat < 128)) = true)) (fun i => s.length - (intOf i).toNat)
  case atStart => exact ⟨0, Nat.zero_le _, rfl, hidI rfl⟩
  case round =>
    obtain ⟨k, hk, rfl, HA⟩ := hrel
    by_cases hlt : k < s.length
    · have c0 := HC.out k hlt
      have w1 : (0 : Int) ≤ (k : Int) := by omega
      have w2 : (k : Int) < (s.length : Int) := by omega
      by_cases hc : s[k].toNat < 128
      · have c1 : ¬ (127 : Int) < (s[k].toNat : Int) := by omega
        have HN : Hid ((s.take (k + 1)).all (fun c => decide (c.toNat < 128)) = true) := hidI (by
          rw [List.take_succ_eq_append_getElem hlt, List.all_append, HA.out]
          simp [hc])
        clear hc
        go_wp2_with fail
        go_round
        case rel => exact ⟨k + 1, by omega, by go_num, HN⟩
        case measure => simp [intOf]; omega
      · have c1 : (127 : Int) < (s[k].toNat : Int) := by omega
        have HF : Hid (plainB s = false) := hidI (by
          rw [plain_eq, Bool.and_eq_false_iff]
          right
          rw [List.all_eq_false]
          exact ⟨s[k], List.getElem_mem hlt, by simp; omega⟩)
        clear hc
        go_wp2_with fail
        go_ret
        exact ⟨by rw [HF.out]; rfl, HB.out⟩
    · have l1 : s.take k = s := List.take_of_length_le (by omega)
      rw [l1] at HA
      have d1 : ¬ (k : Int) < (s.length : Int) := by omega
      by_cases h60 : s.length ≤ 60
      · have h61 : (s.length : Int) ≤ 60 := by omega
        have HF : Hid (plainB s = true) := hidI (by rw [plain_eq, HA.out]; simp [h60])
        clear l1 h60
        go_wp2_with fail
        go_ret
        exact ⟨by rw [HF.out]; rfl, HB.out⟩
      · have h61 : ¬ (s.length : Int) ≤ 60 := by omega
        have HF : Hid (plainB s = false) := hidI (by rw [plain_eq]; simp [h60])
        clear l1 h60
        go_wp2_with fail
        go_ret
        exact ⟨by rw [HF.out]; rfl, HB.out⟩
theorem ascii_at (w : World) (s : List UInt8) (hs : s.length ≤ 9223372036854775807) :
    Calls Tryd.prog 68 #[str s] w fun e w' => e = .returned (.bool (plainB s)) ∧ Below w.heap.size w w' :=
  (ascii_gr w s hs).mono fun e w' ⟨h1, q, os, h2⟩ => ⟨h1, by rw [h2]; exact bel_grow w q os⟩
end Go.Proofs.YtaifciobaapehaaDoor

/- What shaped of package stairwellref does. -/
set_option linter.unusedSimpArgs false
set_option linter.unusedVariables false
namespace Go.Proofs.YtaifciobaapehaaDoor
open Go.RowKit
attribute [local go_sem ↓] Go.wp_at_zero Go.wp_at_succ

def ShpC (d : Nat) : Prop := ∀ (w : World) (ok : Nat → Prop) (t : V) (v : Value), VIs w ok d t v →
    Calls Tryd.prog 48 #[v] w fun e w' => e = .returned (.bool (shp t)) ∧ Below w.heap.size w w'
theorem shaped_five {t : V} (hk : t.kind = 5) : shapedB t = (decide (t.n = 0) && decide (t.s = []) && decide (t.keys.length = t.l.length) && riseFrom none t.keys) := by simp [shapedB, hk]

set_option maxRecDepth 100000 in
set_option maxHeartbeats 40000000 in
theorem rshaped_k0 (d : Nat) (ih : ShpC d) (w : World) (ok : Nat → Prop) (t : V) (v : Value) (h : VIs w ok (d + 1) t v) (hk : t.kind = 0) :
    Calls Tryd.prog 48 #[v] w fun e w' => e = .returned (.bool (shp t)) ∧ Below w.heap.size w w' := by
  have IH := hidI ih
  obtain ⟨a1, a2, c1, c2, rfl⟩ := h.shape
  have VV : Hid (ValsAre w ok (VIs w ok d) t.l (.slice a2 t.l.length c2) ∧ StrsAre w ok t.keys (.slice a1 t.keys.length c1) ∧ t.s.length ≤ 9223372036854775807) := hidI (by
    obtain ⟨ks, ls, e, h1, h2, h3, h4, h5⟩ := h
    simp only [Value.agg.injEq, Array.mk.injEq, List.cons.injEq, and_true] at e
    obtain ⟨-, -, -, rfl, rfl⟩ := e
    exact ⟨h5, h4, h3⟩)
  have ll : t.l.length ≤ 9223372036854775807 := VV.out.1.1
  have lk : t.keys.length ≤ 9223372036854775807 := VV.out.2.1.1
  have B1 := hidI (bel_alloc w (.cells #[.int .i64 t.kind, .int .i64 t.n, .string ⟨t.s.toArray⟩, .slice a1 t.keys.length c1, .slice a2 t.l.length c2] 25))
  have HK := hidI hk
  clear h ih hk
  go_enter Tryd.func48, Tryd.ntmps48
  go_upto_block 0 with fail
  go_cut [3] (fun b wc => b = .bool (shapedB t) ∧ BoxIs wc w.heap.size (.int .i64 t.kind) (.int .i64 t.n) (.string ⟨t.s.toArray⟩) (.slice a1 t.keys.length c1) (.slice a2 t.l.length c2) ∧ Below w.heap.size w wc)
  case first =>
    have hk := HK.out
    have g0 : (t.kind == 0) = true := by simp [hk]
    by_cases hN : t.n = 0
    · have qN : (t.n == 0) = true := by simp [hN]
      by_cases hS : t.s = []
      · have qS : (t.s == []) = true := by simp [hS]
        by_cases hK : t.keys.length = 0
        · have qK : ((t.keys.length : Int) == 0) = true := by simp [hK]
          by_cases hL : t.l.length = 0
          · have qL : ((t.l.length : Int) == 0) = true := by simp [hL]
            have HR : Hid (shapedB t = true) := hidI (by simp [shapedB, listlessB, hk, hN, hS, hK, hL])
            clear hk hN hS hK hL
            go_wp2_with fail
            go_meet
            case rel => exact ⟨by rw [HR.out], ⟨heap_alloc_new w _, B1.out⟩⟩
          · have qL : ((t.l.length : Int) == 0) = false := by rw [beq_eq_false_iff_ne]; omega
            have HR : Hid (shapedB t = false) := hidI (by simp [shapedB, listlessB, hk, hN, hS, hK, hL])
            clear hk hN hS hK hL
            go_wp2_with fail
            go_meet
            case rel => exact ⟨by rw [HR.out], ⟨heap_alloc_new w _, B1.out⟩⟩
        · have qK : ((t.keys.length : Int) == 0) = false := by rw [beq_eq_false_iff_ne]; omega
          have HR : Hid (shapedB t = false) := hidI (by simp [shapedB, listlessB, hk, hN, hS, hK])
          clear hk hN hS hK
          go_wp2_with fail
          go_meet
          case rel => exact ⟨by rw [HR.out], ⟨heap_alloc_new w _, B1.out⟩⟩
      · have qS : (t.s == []) = false := by simp [hS]
        have HR : Hid (shapedB t = false) := hidI (by simp [shapedB, listlessB, hk, hN, hS])
        clear hk hN hS
        go_wp2_with fail
        go_meet
        case rel => exact ⟨by rw [HR.out], ⟨heap_alloc_new w _, B1.out⟩⟩
    · have qN : (t.n == 0) = false := by simp [hN]
      have HR : Hid (shapedB t = false) := hidI (by simp [shapedB, listlessB, hk, hN])
      clear hk hN
      go_wp2_with fail
      go_meet
      case rel => exact ⟨by rw [HR.out], ⟨heap_alloc_new w _, B1.out⟩⟩
  case rest =>
    obtain ⟨rfl, hc⟩ := hcut
    have C0 := hidI hc
    have HSP := hidI (shp_eq t)
    obtain ⟨y0, y1, y2, y3, y4, -⟩ := hc.1.c
    obtain ⟨o0, ho0⟩ : ∃ o, shapedB t = o := ⟨_, rfl⟩
    rw [ho0]
    have O0 := hidI ho0
    clear hc ho0
    go_wp2_with fail
    go_loopg [3, 179] t.l.length (fun gk b i wr => ∃ (k : Nat), k ≤ t.l.length ∧ gk = t.l.length - k ∧ i = .int .i64 k ∧ b = .bool (o0 && shps (t.l.take k)) ∧ Below w.heap.size w wr)
    case atStart => exact ⟨0, Nat.zero_le _, rfl, rfl, by simp [shps], C0.out.2⟩
    case round =>
      obtain ⟨k, hk, hgk, rfl, rfl, hb⟩ := hrel
      have GK := hidI hgk
      have HB := hidI hb
      clear hgk hb
      by_cases hlt : k < t.l.length
      · obtain ⟨b, off, rfl, z1, z2, a5, c5, a6, c6, p0, p1, p2, p3, p4, p5⟩ := vals_at VV.out.1 hlt
        unfold maxLen at z2
        replace p0 := cell_bel HB.out p0
        replace p1 := cell_bel HB.out p1
        replace p2 := cell_bel HB.out p2
        replace p3 := cell_bel HB.out p3
        replace p4 := cell_bel HB.out p4
        have P5 := hidI (p5.bel HB.out)
        have w1 : (0 : Int) ≤ (k : Int) := by omega
        have w2 : (k : Int) < (t.l.length : Int) := by omega
        have e1 : Hid (shps (t.l.take (k + 1)) = (shps (t.l.take k) && shp t.l[k])) := hidI (by rw [take_snocV hlt, shps_snoc])
        clear p5
        cases hoo : (o0 && shps (t.l.take k)) with
        | false =>
          have HN : Hid ((o0 && shps (t.l.take (k + 1))) = false) := hidI (by rw [e1.out, ← Bool.and_assoc, hoo]; rfl)
          clear hoo
          go_wp2_with fail
          go_roundg (t.l.length - (k + 1))
          case measure => rw [GK.out]; omega
          case rel => exact ⟨k + 1, hlt, rfl, by go_num, by rw [HN.out], bel_trans HB.out (bel_alloc _ _)⟩
        | true =>
          have HN : Hid ((o0 && shps (t.l.take (k + 1))) = shp t.l[k]) := hidI (by rw [e1.out, ← Bool.and_assoc, hoo]; rfl)
          clear hoo
          go_wp2_with fail
          refine (IH.out _ ok t.l[k] _ (by exact P5.out.bel (bel_alloc _ _))).mono ?_
          rintro e w4 ⟨rfl, hb4⟩
          have HB4 := hidI (bel_trans HB.out (bel_trans (bel_alloc _ _) hb4))
          clear hb4 p0 p1 p2 p3 p4
          go_wp2_with fail
          go_roundg (t.l.length - (k + 1))
          case measure => rw [GK.out]; omega
          case rel => exact ⟨k + 1, hlt, rfl, by go_num, by rw [HN.out], HB4.out⟩
      · have l1 : t.l.take k = t.l := List.take_of_length_le (by omega)
        have d1 : ¬ (k : Int) < (t.l.length : Int) := by omega
        rw [l1]
        have HF : Hid (shp t = (o0 && shps t.l)) := hidI (by rw [HSP.out, O0.out])
        clear l1
        go_wp2_with fail
        go_ret
        exact ⟨by rw [HF.out]; rfl, HB.out⟩
set_option maxRecDepth 100000 in
set_option maxHeartbeats 40000000 in
theorem rshaped_k1 (d : Nat) (ih : ShpC d) (w : World) (ok : Nat → Prop) (t : V) (v : Value) (h : VIs w ok (d + 1) t v) (hk : t.kind = 1) :
    Calls Tryd.prog 48 #[v] w fun e w' => e = .returned (.bool (shp t)) ∧ Below w.heap.size w w' := by
  have IH := hidI ih
  obtain ⟨a1, a2, c1, c2, rfl⟩ := h.shape
  have VV : Hid (ValsAre w ok (VIs w ok d) t.l (.slice a2 t.l.length c2) ∧ StrsAre w ok t.keys (.slice a1 t.keys.length c1) ∧ t.s.length ≤ 9223372036854775807) := hidI (by
    obtain ⟨ks, ls, e, h1, h2, h3, h4, h5⟩ := h
    simp only [Value.agg.injEq, Array.mk.injEq, List.cons.injEq, and_true] at e
    obtain ⟨-, -, -, rfl, rfl⟩ := e
    exact ⟨h5, h4, h3⟩)
  have ll : t.l.length ≤ 9223372036854775807 := VV.out.1.1
  have lk : t.keys.length ≤ 9223372036854775807 := VV.out.2.1.1
  have B1 := hidI (bel_alloc w (.cells #[.int .i64 t.kind, .int .i64 t.n, .string ⟨t.s.toArray⟩, .slice a1 t.keys.length c1, .slice a2 t.l.length c2] 25))
  have HK := hidI hk
  clear h ih hk
  go_enter Tryd.func48, Tryd.ntmps48
  go_upto_block 0 with fail
  go_cut [3] (fun b wc => b = .bool (shapedB t) ∧ BoxIs wc w.heap.size (.int .i64 t.kind) (.int .i64 t.n) (.string ⟨t.s.toArray⟩) (.slice a1 t.keys.length c1) (.slice a2 t.l.length c2) ∧ Below w.heap.size w wc)
  case first =>
    have hk := HK.out
    have f0 : (t.kind == 0) = false := by simp [hk]
    have g1 : (t.kind == 1) = true := by simp [hk]
    by_cases hN : t.n = 0
    · have qN : (t.n == 0) = true := by simp [hN]
      by_cases hS : t.s = []
      · have qS : (t.s == []) = true := by simp [hS]
        by_cases hK : t.keys.length = 0
        · have qK : ((t.keys.length : Int) == 0) = true := by simp [hK]
          by_cases hL : t.l.length = 0
          · have qL : ((t.l.length : Int) == 0) = true := by simp [hL]
            have HR : Hid (shapedB t = true) := hidI (by simp [shapedB, listlessB, hk, hN, hS, hK, hL])
            clear hk hN hS hK hL
            go_wp2_with fail
            go_meet
            case rel => exact ⟨by rw [HR.out], ⟨heap_alloc_new w _, B1.out⟩⟩
          · have qL : ((t.l.length : Int) == 0) = false := by rw [beq_eq_false_iff_ne]; omega
            have HR : Hid (shapedB t = false) := hidI (by simp [shapedB, listlessB, hk, hN, hS, hK, hL])
            clear hk hN hS hK hL
            go_wp2_with fail
            go_meet
            case rel => exact ⟨by rw [HR.out], ⟨heap_alloc_new w _, B1.out⟩⟩
        · have qK : ((t.keys.length : Int) == 0) = false := by rw [beq_eq_false_iff_ne]; omega
          have HR : Hid (shapedB t = false) := hidI (by simp [shapedB, listlessB, hk, hN, hS, hK])
          clear hk hN hS hK
          go_wp2_with fail
          go_meet
          case rel => exact ⟨by rw [HR.out], ⟨heap_alloc_new w _, B1.out⟩⟩
      · have qS : (t.s == []) = false := by simp [hS]
        have HR : Hid (shapedB t = false) := hidI (by simp [shapedB, listlessB, hk, hN, hS])
        clear hk hN hS
        go_wp2_with fail
        go_meet
        case rel => exact ⟨by rw [HR.out], ⟨heap_alloc_new w _, B1.out⟩⟩
    · have qN : (t.n == 0) = false := by simp [hN]
      by_cases hO : t.n = 1
      · have qO : (t.n == 1) = true := by simp [hO]
        by_cases hS : t.s = []
        · have qS : (t.s == []) = true := by simp [hS]
          by_cases hK : t.keys.length = 0
          · have qK : ((t.keys.length : Int) == 0) = true := by simp [hK]
            by_cases hL : t.l.length = 0
            · have qL : ((t.l.length : Int) == 0) = true := by simp [hL]
              have HR : Hid (shapedB t = true) := hidI (by simp [shapedB, listlessB, hk, hN, hO, hS, hK, hL])
              clear hk hN hO hS hK hL
              go_wp2_with fail
              go_meet
              case rel => exact ⟨by rw [HR.out], ⟨heap_alloc_new w _, B1.out⟩⟩
            · have qL : ((t.l.length : Int) == 0) = false := by rw [beq_eq_false_iff_ne]; omega
              have HR : Hid (shapedB t = false) := hidI (by simp [shapedB, listlessB, hk, hN, hO, hS, hK, hL])
              clear hk hN hO hS hK hL
              go_wp2_with fail
              go_meet
              case rel => exact ⟨by rw [HR.out], ⟨heap_alloc_new w _, B1.out⟩⟩
          · have qK : ((t.keys.length : Int) == 0) = false := by rw [beq_eq_false_iff_ne]; omega
            have HR : Hid (shapedB t = false) := hidI (by simp [shapedB, listlessB, hk, hN, hO, hS, hK])
            clear hk hN hO hS hK
            go_wp2_with fail
            go_meet
            case rel => exact ⟨by rw [HR.out], ⟨heap_alloc_new w _, B1.out⟩⟩
        · have qS : (t.s == []) = false := by simp [hS]
          have HR : Hid (shapedB t = false) := hidI (by simp [shapedB, listlessB, hk, hN, hO, hS])
          clear hk hN hO hS
          go_wp2_with fail
          go_meet
          case rel => exact ⟨by rw [HR.out], ⟨heap_alloc_new w _, B1.out⟩⟩
      · have qO : (t.n == 1) = false := by simp [hO]
        have HR : Hid (shapedB t = false) := hidI (by simp [shapedB, listlessB, hk, hN, hO])
        clear hk hN hO
        go_wp2_with fail
        go_meet
        case rel => exact ⟨by rw [HR.out], ⟨heap_alloc_new w _, B1.out⟩⟩
  case rest =>
    obtain ⟨rfl, hc⟩ := hcut
    have C0 := hidI hc
    have HSP := hidI (shp_eq t)
    obtain ⟨y0, y1, y2, y3, y4, -⟩ := hc.1.c
    obtain ⟨o0, ho0⟩ : ∃ o, shapedB t = o := ⟨_, rfl⟩
    rw [ho0]
    have O0 := hidI ho0
    clear hc ho0
    go_wp2_with fail
    go_loopg [3, 179] t.l.length (fun gk b i wr => ∃ (k : Nat), k ≤ t.l.length ∧ gk = t.l.length - k ∧ i = .int .i64 k ∧ b = .bool (o0 && shps (t.l.take k)) ∧ Below w.heap.size w wr)
    case atStart => exact ⟨0, Nat.zero_le _, rfl, rfl, by simp [shps], C0.out.2⟩
    case round =>
      obtain ⟨k, hk, hgk, rfl, rfl, hb⟩ := hrel
      have GK := hidI hgk
      have HB := hidI hb
      clear hgk hb
      by_cases hlt : k < t.l.length
      · obtain ⟨b, off, rfl, z1, z2, a5, c5, a6, c6, p0, p1, p2, p3, p4, p5⟩ := vals_at VV.out.1 hlt
        unfold maxLen at z2
        replace p0 := cell_bel HB.out p0
        replace p1 := cell_bel HB.out p1
        replace p2 := cell_bel HB.out p2
        replace p3 := cell_bel HB.out p3
        replace p4 := cell_bel HB.out p4
        have P5 := hidI (p5.bel HB.out)
        have w1 : (0 : Int) ≤ (k : Int) := by omega
        have w2 : (k : Int) < (t.l.length : Int) := by omega
        have e1 : Hid (shps (t.l.take (k + 1)) = (shps (t.l.take k) && shp t.l[k])) := hidI (by rw [take_snocV hlt, shps_snoc])
        clear p5
        cases hoo : (o0 && shps (t.l.take k)) with
        | false =>
          have HN : Hid ((o0 && shps (t.l.take (k + 1))) = false) := hidI (by rw [e1.out, ← Bool.and_assoc, hoo]; rfl)
          clear hoo
          go_wp2_with fail
          go_roundg (t.l.length - (k + 1))
          case measure => rw [GK.out]; omega
          case rel => exact ⟨k + 1, hlt, rfl, by go_num, by rw [HN.out], bel_trans HB.out (bel_alloc _ _)⟩
        | true =>
          have HN : Hid ((o0 && shps (t.l.take (k + 1))) = shp t.l[k]) := hidI (by rw [e1.out, ← Bool.and_assoc, hoo]; rfl)
          clear hoo
          go_wp2_with fail
          refine (IH.out _ ok t.l[k] _ (by exact P5.out.bel (bel_alloc _ _))).mono ?_
          rintro e w4 ⟨rfl, hb4⟩
          have HB4 := hidI (bel_trans HB.out (bel_trans (bel_alloc _ _) hb4))
          clear hb4 p0 p1 p2 p3 p4
          go_wp2_with fail
          go_roundg (t.l.length - (k + 1))
          case measure => rw [GK.out]; omega
          case rel => exact ⟨k + 1, hlt, rfl, by go_num, by rw [HN.out], HB4.out⟩
      · have l1 : t.l.take k = t.l := List.take_of_length_le (by omega)
        have d1 : ¬ (k : Int) < (t.l.length : Int) := by omega
        rw [l1]
        have HF : Hid (shp t = (o0 && shps t.l)) := hidI (by rw [HSP.out, O0.out])
        clear l1
        go_wp2_with fail
        go_ret
        exact ⟨by rw [HF.out]; rfl, HB.out⟩
set_option maxRecDepth 100000 in
set_option maxHeartbeats 40000000 in
theorem rshaped_k2 (d : Nat) (ih : ShpC d) (w : World) (ok : Nat → Prop) (t : V) (v : Value) (h : VIs w ok (d + 1) t v) (hk : t.kind = 2) :
    Calls Tryd.prog 48 #[v] w fun e w' => e = .returned (.bool (shp t)) ∧ Below w.heap.size w w' := by
  have IH := hidI ih
  obtain ⟨a1, a2, c1, c2, rfl⟩ := h.shape
  have VV : Hid (ValsAre w ok (VIs w ok d) t.l (.slice a2 t.l.length c2) ∧ StrsAre w ok t.keys (.slice a1 t.keys.length c1) ∧ t.s.length ≤ 9223372036854775807) := hidI (by
    obtain ⟨ks, ls, e, h1, h2, h3, h4, h5⟩ := h
    simp only [Value.agg.injEq, Array.mk.injEq, List.cons.injEq, and_true] at e
    obtain ⟨-, -, -, rfl, rfl⟩ := e
    exact ⟨h5, h4, h3⟩)
  have ll : t.l.length ≤ 9223372036854775807 := VV.out.1.1
  have lk : t.keys.length ≤ 9223372036854775807 := VV.out.2.1.1
  have B1 := hidI (bel_alloc w (.cells #[.int .i64 t.kind, .int .i64 t.n, .string ⟨t.s.toArray⟩, .slice a1 t.keys.length c1, .slice a2 t.l.length c2] 25))
  have HK := hidI hk
  clear h ih hk
  go_enter Tryd.func48, Tryd.ntmps48
  go_upto_block 0 with fail
  go_cut [3] (fun b wc => b = .bool (shapedB t) ∧ BoxIs wc w.heap.size (.int .i64 t.kind) (.int .i64 t.n) (.string ⟨t.s.toArray⟩) (.slice a1 t.keys.length c1) (.slice a2 t.l.length c2) ∧ Below w.heap.size w wc)
  case first =>
    have hk := HK.out
    have f0 : (t.kind == 0) = false := by simp [hk]
    have f1 : (t.kind == 1) = false := by simp [hk]
    have g2 : (t.kind == 2) = true := by simp [hk]
    by_cases hA : -9007199254740992 ≤ t.n
    · have qA : -9007199254740992 ≤ t.n := by exact hA
      by_cases hB : t.n ≤ 9007199254740992
      · have qB : t.n ≤ 9007199254740992 := by exact hB
        by_cases hS : t.s = []
        · have qS : (t.s == []) = true := by simp [hS]
          by_cases hK : t.keys.length = 0
          · have qK : ((t.keys.length : Int) == 0) = true := by simp [hK]
            by_cases hL : t.l.length = 0
            · have qL : ((t.l.length : Int) == 0) = true := by simp [hL]
              have HR : Hid (shapedB t = true) := hidI (by simp [shapedB, listlessB, hk, hA, hB, hS, hK, hL])
              clear hk hA hB hS hK hL
              go_wp2_with fail
              go_meet
              case rel => exact ⟨by rw [HR.out], ⟨heap_alloc_new w _, B1.out⟩⟩
            · have qL : ((t.l.length : Int) == 0) = false := by rw [beq_eq_false_iff_ne]; omega
              have HR : Hid (shapedB t = false) := hidI (by simp [shapedB, listlessB, hk, hA, hB, hS, hK, hL])
              clear hk hA hB hS hK hL
              go_wp2_with fail
              go_meet
              case rel => exact ⟨by rw [HR.out], ⟨heap_alloc_new w _, B1.out⟩⟩
          · have qK : ((t.keys.length : Int) == 0) = false := by rw [beq_eq_false_iff_ne]; omega
            have HR : Hid (shapedB t = false) := hidI (by simp [shapedB, listlessB, hk, hA, hB, hS, hK])
            clear hk hA hB hS hK
            go_wp2_with fail
            go_meet
            case rel => exact ⟨by rw [HR.out], ⟨heap_alloc_new w _, B1.out⟩⟩
        · have qS : (t.s == []) = false := by simp [hS]
          have HR : Hid (shapedB t = false) := hidI (by simp [shapedB, listlessB, hk, hA, hB, hS])
          clear hk hA hB hS
          go_wp2_with fail
          go_meet
          case rel => exact ⟨by rw [HR.out], ⟨heap_alloc_new w _, B1.out⟩⟩
      · have qB : ¬ t.n ≤ 9007199254740992 := by exact hB
        have HR : Hid (shapedB t = false) := hidI (by simp [shapedB, listlessB, hk, hA, hB])
        clear hk hA hB
        go_wp2_with fail
        go_meet
        case rel => exact ⟨by rw [HR.out], ⟨heap_alloc_new w _, B1.out⟩⟩
    · have qA : ¬ -9007199254740992 ≤ t.n := by exact hA
      have HR : Hid (shapedB t = false) := hidI (by simp [shapedB, listlessB, hk, hA])
      clear hk hA
      go_wp2_with fail
      go_meet
      case rel => exact ⟨by rw [HR.out], ⟨heap_alloc_new w _, B1.out⟩⟩
  case rest =>
    obtain ⟨rfl, hc⟩ := hcut
    have C0 := hidI hc
    have HSP := hidI (shp_eq t)
    obtain ⟨y0, y1, y2, y3, y4, -⟩ := hc.1.c
    obtain ⟨o0, ho0⟩ : ∃ o, shapedB t = o := ⟨_, rfl⟩
    rw [ho0]
    have O0 := hidI ho0
    clear hc ho0
    go_wp2_with fail
    go_loopg [3, 179] t.l.length (fun gk b i wr => ∃ (k : Nat), k ≤ t.l.length ∧ gk = t.l.length - k ∧ i = .int .i64 k ∧ b = .bool (o0 && shps (t.l.take k)) ∧ Below w.heap.size w wr)
    case atStart => exact ⟨0, Nat.zero_le _, rfl, rfl, by simp [shps], C0.out.2⟩
    case round =>
      obtain ⟨k, hk, hgk, rfl, rfl, hb⟩ := hrel
      have GK := hidI hgk
      have HB := hidI hb
      clear hgk hb
      by_cases hlt : k < t.l.length
      · obtain ⟨b, off, rfl, z1, z2, a5, c5, a6, c6, p0, p1, p2, p3, p4, p5⟩ := vals_at VV.out.1 hlt
        unfold maxLen at z2
        replace p0 := cell_bel HB.out p0
        replace p1 := cell_bel HB.out p1
        replace p2 := cell_bel HB.out p2
        replace p3 := cell_bel HB.out p3
        replace p4 := cell_bel HB.out p4
        have P5 := hidI (p5.bel HB.out)
        have w1 : (0 : Int) ≤ (k : Int) := by omega
        have w2 : (k : Int) < (t.l.length : Int) := by omega
        have e1 : Hid (shps (t.l.take (k + 1)) = (shps (t.l.take k) && shp t.l[k])) := hidI (by rw [take_snocV hlt, shps_snoc])
        clear p5
        cases hoo : (o0 && shps (t.l.take k)) with
        | false =>
          have HN : Hid ((o0 && shps (t.l.take (k + 1))) = false) := hidI (by rw [e1.out, ← Bool.and_assoc, hoo]; rfl)
          clear hoo
          go_wp2_with fail
          go_roundg (t.l.length - (k + 1))
          case measure => rw [GK.out]; omega
          case rel => exact ⟨k + 1, hlt, rfl, by go_num, by rw [HN.out], bel_trans HB.out (bel_alloc _ _)⟩
        | true =>
          have HN : Hid ((o0 && shps (t.l.take (k + 1))) = shp t.l[k]) := hidI (by rw [e1.out, ← Bool.and_assoc, hoo]; rfl)
          clear hoo
          go_wp2_with fail
          refine (IH.out _ ok t.l[k] _ (by exact P5.out.bel (bel_alloc _ _))).mono ?_
          rintro e w4 ⟨rfl, hb4⟩
          have HB4 := hidI (bel_trans HB.out (bel_trans (bel_alloc _ _) hb4))
          clear hb4 p0 p1 p2 p3 p4
          go_wp2_with fail
          go_roundg (t.l.length - (k + 1))
          case measure => rw [GK.out]; omega
          case rel => exact ⟨k + 1, hlt, rfl, by go_num, by rw [HN.out], HB4.out⟩
      · have l1 : t.l.take k = t.l := List.take_of_length_le (by omega)
        have d1 : ¬ (k : Int) < (t.l.length : Int) := by omega
        rw [l1]
        have HF : Hid (shp t = (o0 && shps t.l)) := hidI (by rw [HSP.out, O0.out])
        clear l1
        go_wp2_with fail
        go_ret
        exact ⟨by rw [HF.out]; rfl, HB.out⟩
end Go.Proofs.YtaifciobaapehaaDoor

/- What shaped of package stairwellref does. -/
set_option linter.unusedSimpArgs false
set_option linter.unusedVariables false
namespace Go.Proofs.YtaifciobaapehaaDoor
open Go.RowKit
attribute [local go_sem ↓] Go.wp_at_zero Go.wp_at_succ

set_option maxRecDepth 100000 in
set_option maxHeartbeats 40000000 in
theorem rshaped_k3 (d : Nat) (ih : ShpC d) (w : World) (ok : Nat → Prop) (t : V) (v : Value) (h : VIs w ok (d + 1) t v) (hk : t.kind = 3) :
    Calls Tryd.prog 48 #[v] w fun e w' => e = .returned (.bool (shp t)) ∧ Below w.heap.size w w' := by
  have IH := hidI ih
  obtain ⟨a1, a2, c1, c2, rfl⟩ := h.shape
  have VV : Hid (ValsAre w ok (VIs w ok d) t.l (.slice a2 t.l.length c2) ∧ StrsAre w ok t.keys (.slice a1 t.keys.length c1) ∧ t.s.length ≤ 9223372036854775807) := hidI (by
    obtain ⟨ks, ls, e, h1, h2, h3, h4, h5⟩ := h
    simp only [Value.agg.injEq, Array.mk.injEq, List.cons.injEq, and_true] at e
    obtain ⟨-, -, -, rfl, rfl⟩ := e
    exact ⟨h5, h4, h3⟩)
  have ll : t.l.length ≤ 9223372036854775807 := VV.out.1.1
  have lk : t.keys.length ≤ 9223372036854775807 := VV.out.2.1.1
  have B1 := hidI (bel_alloc w (.cells #[.int .i64 t.kind, .int .i64 t.n, .string ⟨t.s.toArray⟩, .slice a1 t.keys.length c1, .slice a2 t.l.length c2] 25))
  have HK := hidI hk
  clear h ih hk
  go_enter Tryd.func48, Tryd.ntmps48
  go_upto_block 0 with fail
  go_cut [3] (fun b wc => b = .bool (shapedB t) ∧ BoxIs wc w.heap.size (.int .i64 t.kind) (.int .i64 t.n) (.string ⟨t.s.toArray⟩) (.slice a1 t.keys.length c1) (.slice a2 t.l.length c2) ∧ Below w.heap.size w wc)
  case first =>
    have hk := HK.out
    have f0 : (t.kind == 0) = false := by simp [hk]
    have f1 : (t.kind == 1) = false := by simp [hk]
    have f2 : (t.kind == 2) = false := by simp [hk]
    have g3 : (t.kind == 3) = true := by simp [hk]
    by_cases hN : t.n = 0
    · have qN : (t.n == 0) = true := by simp [hN]
      cases hp : plainB t.s with
      | false =>
        have HP := hidI hp
        have HR : Hid (shapedB t = false) := hidI (by simp [shapedB, listlessB, hk, hN, hp])
        clear hk hN hp
        go_wp2_with fail
        refine (ascii_at _ t.s VV.out.2.2).mono ?_
        rintro e w4 ⟨rfl, hb4⟩
        rw [HP.out]
        have K4 : Hid (BoxIs w4 w.heap.size (.int .i64 t.kind) (.int .i64 t.n) (.string ⟨t.s.toArray⟩) (.slice a1 t.keys.length c1) (.slice a2 t.l.length c2) ∧ Below w.heap.size w w4) := hidI ⟨box_bel hb4 (heap_alloc_new w _), bel_trans B1.out hb4⟩
        clear hb4
        obtain ⟨y0, y1, y2, y3, y4, -⟩ := K4.out.1.c
        go_wp2_with fail
        go_meet
        case rel => exact ⟨by rw [HR.out], K4.out⟩
      | true =>
        have HP := hidI hp
        by_cases hK : t.keys.length = 0
        · have qK : ((t.keys.length : Int) == 0) = true := by simp [hK]
          by_cases hL : t.l.length = 0
          · have qL : ((t.l.length : Int) == 0) = true := by simp [hL]
            have HR : Hid (shapedB t = true) := hidI (by simp [shapedB, listlessB, hk, hN, hp, hK, hL])
            clear hk hN hp hK hL
            go_wp2_with fail
            refine (ascii_at _ t.s VV.out.2.2).mono ?_
            rintro e w4 ⟨rfl, hb4⟩
            rw [HP.out]
            have K4 : Hid (BoxIs w4 w.heap.size (.int .i64 t.kind) (.int .i64 t.n) (.string ⟨t.s.toArray⟩) (.slice a1 t.keys.length c1) (.slice a2 t.l.length c2) ∧ Below w.heap.size w w4) := hidI ⟨box_bel hb4 (heap_alloc_new w _), bel_trans B1.out hb4⟩
            clear hb4
            obtain ⟨y0, y1, y2, y3, y4, -⟩ := K4.out.1.c
            go_wp2_with fail
            go_meet
            case rel => exact ⟨by rw [HR.out], K4.out⟩
          · have qL : ((t.l.length : Int) == 0) = false := by rw [beq_eq_false_iff_ne]; omega
            have HR : Hid (shapedB t = false) := hidI (by simp [shapedB, listlessB, hk, hN, hp, hK, hL])
            clear hk hN hp hK hL
            go_wp2_with fail
            refine (ascii_at _ t.s VV.out.2.2).mono ?_
            rintro e w4 ⟨rfl, hb4⟩
            rw [HP.out]
            have K4 : Hid (BoxIs w4 w.heap.size (.int .i64 t.kind) (.int .i64 t.n) (.string ⟨t.s.toArray⟩) (.slice a1 t.keys.length c1) (.slice a2 t.l.length c2) ∧ Below w.heap.size w w4) := hidI ⟨box_bel hb4 (heap_alloc_new w _), bel_trans B1.out hb4⟩
            clear hb4
            obtain ⟨y0, y1, y2, y3, y4, -⟩ := K4.out.1.c
            go_wp2_with fail
            go_meet
            case rel => exact ⟨by rw [HR.out], K4.out⟩
        · have qK : ((t.keys.length : Int) == 0) = false := by rw [beq_eq_false_iff_ne]; omega
          have HR : Hid (shapedB t = false) := hidI (by simp [shapedB, listlessB, hk, hN, hp, hK])
          clear hk hN hp hK
          go_wp2_with fail
          refine (ascii_at _ t.s VV.out.2.2).mono ?_
          rintro e w4 ⟨rfl, hb4⟩
          rw [HP.out]
          have K4 : Hid (BoxIs w4 w.heap.size (.int .i64 t.kind) (.int .i64 t.n) (.string ⟨t.s.toArray⟩) (.slice a1 t.keys.length c1) (.slice a2 t.l.length c2) ∧ Below w.heap.size w w4) := hidI ⟨box_bel hb4 (heap_alloc_new w _), bel_trans B1.out hb4⟩
          clear hb4
          obtain ⟨y0, y1, y2, y3, y4, -⟩ := K4.out.1.c
          go_wp2_with fail
          go_meet
          case rel => exact ⟨by rw [HR.out], K4.out⟩
    · have qN : (t.n == 0) = false := by simp [hN]
      have HR : Hid (shapedB t = false) := hidI (by simp [shapedB, listlessB, hk, hN])
      clear hk hN
      go_wp2_with fail
      go_meet
      case rel => exact ⟨by rw [HR.out], ⟨heap_alloc_new w _, B1.out⟩⟩
  case rest =>
    obtain ⟨rfl, hc⟩ := hcut
    have C0 := hidI hc
    have HSP := hidI (shp_eq t)
    obtain ⟨y0, y1, y2, y3, y4, -⟩ := hc.1.c
    obtain ⟨o0, ho0⟩ : ∃ o, shapedB t = o := ⟨_, rfl⟩
    rw [ho0]
    have O0 := hidI ho0
    clear hc ho0
    go_wp2_with fail
    go_loopg [3, 179] t.l.length (fun gk b i wr => ∃ (k : Nat), k ≤ t.l.length ∧ gk = t.l.length - k ∧ i = .int .i64 k ∧ b = .bool (o0 && shps (t.l.take k)) ∧ Below w.heap.size w wr)
    case atStart => exact ⟨0, Nat.zero_le _, rfl, rfl, by simp [shps], C0.out.2⟩
    case round =>
      obtain ⟨k, hk, hgk, rfl, rfl, hb⟩ := hrel
      have GK := hidI hgk
      have HB := hidI hb
      clear hgk hb
      by_cases hlt : k < t.l.length
      · obtain ⟨b, off, rfl, z1, z2, a5, c5, a6, c6, p0, p1, p2, p3, p4, p5⟩ := vals_at VV.out.1 hlt
        unfold maxLen at z2
        replace p0 := cell_bel HB.out p0
        replace p1 := cell_bel HB.out p1
        replace p2 := cell_bel HB.out p2
        replace p3 := cell_bel HB.out p3
        replace p4 := cell_bel HB.out p4
        have P5 := hidI (p5.bel HB.out)
        have w1 : (0 : Int) ≤ (k : Int) := by omega
        have w2 : (k : Int) < (t.l.length : Int) := by omega
        have e1 : Hid (shps (t.l.take (k + 1)) = (shps (t.l.take k) && shp t.l[k])) := hidI (by rw [take_snocV hlt, shps_snoc])
        clear p5
        cases hoo : (o0 && shps (t.l.take k)) with
        | false =>
          have HN : Hid ((o0 && shps (t.l.take (k + 1))) = false) := hidI (by rw [e1.out, ← Bool.and_assoc, hoo]; rfl)
          clear hoo
          go_wp2_with fail
          go_roundg (t.l.length - (k + 1))
          case measure => rw [GK.out]; omega
          case rel => exact ⟨k + 1, hlt, rfl, by go_num, by rw [HN.out], bel_trans HB.out (bel_alloc _ _)⟩
        | true =>
          have HN : Hid ((o0 && shps (t.l.take (k + 1))) = shp t.l[k]) := hidI (by rw [e1.out, ← Bool.and_assoc, hoo]; rfl)
          clear hoo
          go_wp2_with fail
          refine (IH.out _ ok t.l[k] _ (by exact P5.out.bel (bel_alloc _ _))).mono ?_
          rintro e w4 ⟨rfl, hb4⟩
          have HB4 := hidI (bel_trans HB.out (bel_trans (bel_alloc _ _) hb4))
          clear hb4 p0 p1 p2 p3 p4
          go_wp2_with fail
          go_roundg (t.l.length - (k + 1))
          case measure => rw [GK.out]; omega
          case rel => exact ⟨k + 1, hlt, rfl, by go_num, by rw [HN.out], HB4.out⟩
      · have l1 : t.l.take k = t.l := List.take_of_length_le (by omega)
        have d1 : ¬ (k : Int) < (t.l.length : Int) := by omega
        rw [l1]
        have HF : Hid (shp t = (o0 && shps t.l)) := hidI (by rw [HSP.out, O0.out])
        clear l1
        go_wp2_with fail
        go_ret
        exact ⟨by rw [HF.out]; rfl, HB.out⟩
set_option maxRecDepth 100000 in
set_option maxHeartbeats 40000000 in
theorem rshaped_k4 (d : Nat) (ih : ShpC d) (w : World) (ok : Nat → Prop) (t : V) (v : Value) (h : VIs w ok (d + 1) t v) (hk : t.kind = 4) :
    Calls Tryd.prog 48 #[v] w fun e w' => e = .returned (.bool (shp t)) ∧ Below w.heap.size w w' := by
  have IH := hidI ih
  obtain ⟨a1, a2, c1, c2, rfl⟩ := h.shape
  have VV : Hid (ValsAre w ok (VIs w ok d) t.l (.slice a2 t.l.length c2) ∧ StrsAre w ok t.keys (.slice a1 t.keys.length c1) ∧ t.s.length ≤ 9223372036854775807) := hidI (by
    obtain ⟨ks, ls, e, h1, h2, h3, h4, h5⟩ := h
    simp only [Value.agg.injEq, Array.mk.injEq, List.cons.injEq, and_true] at e
    obtain ⟨-, -, -, rfl, rfl⟩ := e
    exact ⟨h5, h4, h3⟩)
  have ll : t.l.length ≤ 9223372036854775807 := VV.out.1.1
  have lk : t.keys.length ≤ 9223372036854775807 := VV.out.2.1.1
  have B1 := hidI (bel_alloc w (.cells #[.int .i64 t.kind, .int .i64 t.n, .string ⟨t.s.toArray⟩, .slice a1 t.keys.length c1, .slice a2 t.l.length c2] 25))
  have HK := hidI hk
  clear h ih hk
  go_enter Tryd.func48, Tryd.ntmps48
  go_upto_block 0 with fail
  go_cut [3] (fun b wc => b = .bool (shapedB t) ∧ BoxIs wc w.heap.size (.int .i64 t.kind) (.int .i64 t.n) (.string ⟨t.s.toArray⟩) (.slice a1 t.keys.length c1) (.slice a2 t.l.length c2) ∧ Below w.heap.size w wc)
  case first =>
    have hk := HK.out
    have f0 : (t.kind == 0) = false := by simp [hk]
    have f1 : (t.kind == 1) = false := by simp [hk]
    have f2 : (t.kind == 2) = false := by simp [hk]
    have f3 : (t.kind == 3) = false := by simp [hk]
    have g4 : (t.kind == 4) = true := by simp [hk]
    by_cases hN : t.n = 0
    · have qN : (t.n == 0) = true := by simp [hN]
      by_cases hS : t.s = []
      · have qS : (t.s == []) = true := by simp [hS]
        by_cases hK : t.keys.length = 0
        · have qK : ((t.keys.length : Int) == 0) = true := by simp [hK]
          have HR : Hid (shapedB t = true) := hidI (by simp [shapedB, listlessB, hk, hN, hS, hK])
          clear hk hN hS hK
          go_wp2_with fail
          go_meet
          case rel => exact ⟨by rw [HR.out], ⟨heap_alloc_new w _, B1.out⟩⟩
        · have qK : ((t.keys.length : Int) == 0) = false := by rw [beq_eq_false_iff_ne]; omega
          have HR : Hid (shapedB t = false) := hidI (by simp [shapedB, listlessB, hk, hN, hS, hK])
          clear hk hN hS hK
          go_wp2_with fail
          go_meet
          case rel => exact ⟨by rw [HR.out], ⟨heap_alloc_new w _, B1.out⟩⟩
      · have qS : (t.s == []) = false := by simp [hS]
        have HR : Hid (shapedB t = false) := hidI (by simp [shapedB, listlessB, hk, hN, hS])
        clear hk hN hS
        go_wp2_with fail
        go_meet
        case rel => exact ⟨by rw [HR.out], ⟨heap_alloc_new w _, B1.out⟩⟩
    · have qN : (t.n == 0) = false := by simp [hN]
      have HR : Hid (shapedB t = false) := hidI (by simp [shapedB, listlessB, hk, hN])
      clear hk hN
      go_wp2_with fail
      go_meet
      case rel => exact ⟨by rw [HR.out], ⟨heap_alloc_new w _, B1.out⟩⟩
  case rest =>
    obtain ⟨rfl, hc⟩ := hcut
    have C0 := hidI hc
    have HSP := hidI (shp_eq t)
    obtain ⟨y0, y1, y2, y3, y4, -⟩ := hc.1.c
    obtain ⟨o0, ho0⟩ : ∃ o, shapedB t = o := ⟨_, rfl⟩
    rw [ho0]
    have O0 := hidI ho0
    clear hc ho0
    go_wp2_with fail
    go_loopg [3, 179] t.l.length (fun gk b i wr => ∃ (k : Nat), k ≤ t.l.length ∧ gk = t.l.length - k ∧ i = .int .i64 k ∧ b = .bool (o0 && shps (t.l.take k)) ∧ Below w.heap.size w wr)
    case atStart => exact ⟨0, Nat.zero_le _, rfl, rfl, by simp [shps], C0.out.2⟩
    case round =>
      obtain ⟨k, hk, hgk, rfl, rfl, hb⟩ := hrel
      have GK := hidI hgk
      have HB := hidI hb
      clear hgk hb
      by_cases hlt : k < t.l.length
      · obtain ⟨b, off, rfl, z1, z2, a5, c5, a6, c6, p0, p1, p2, p3, p4, p5⟩ := vals_at VV.out.1 hlt
        unfold maxLen at z2
        replace p0 := cell_bel HB.out p0
        replace p1 := cell_bel HB.out p1
        replace p2 := cell_bel HB.out p2
        replace p3 := cell_bel HB.out p3
        replace p4 := cell_bel HB.out p4
        have P5 := hidI (p5.bel HB.out)
        have w1 : (0 : Int) ≤ (k : Int) := by omega
        have w2 : (k : Int) < (t.l.length : Int) := by omega
        have e1 : Hid (shps (t.l.take (k + 1)) = (shps (t.l.take k) && shp t.l[k])) := hidI (by rw [take_snocV hlt, shps_snoc])
        clear p5
        cases hoo : (o0 && shps (t.l.take k)) with
        | false =>
          have HN : Hid ((o0 && shps (t.l.take (k + 1))) = false) := hidI (by rw [e1.out, ← Bool.and_assoc, hoo]; rfl)
          clear hoo
          go_wp2_with fail
          go_roundg (t.l.length - (k + 1))
          case measure => rw [GK.out]; omega
          case rel => exact ⟨k + 1, hlt, rfl, by go_num, by rw [HN.out], bel_trans HB.out (bel_alloc _ _)⟩
        | true =>
          have HN : Hid ((o0 && shps (t.l.take (k + 1))) = shp t.l[k]) := hidI (by rw [e1.out, ← Bool.and_assoc, hoo]; rfl)
          clear hoo
          go_wp2_with fail
          refine (IH.out _ ok t.l[k] _ (by exact P5.out.bel (bel_alloc _ _))).mono ?_
          rintro e w4 ⟨rfl, hb4⟩
          have HB4 := hidI (bel_trans HB.out (bel_trans (bel_alloc _ _) hb4))
          clear hb4 p0 p1 p2 p3 p4
          go_wp2_with fail
          go_roundg (t.l.length - (k + 1))
          case measure => rw [GK.out]; omega
          case rel => exact ⟨k + 1, hlt, rfl, by go_num, by rw [HN.out], HB4.out⟩
      · have l1 : t.l.take k = t.l := List.take_of_length_le (by omega)
        have d1 : ¬ (k : Int) < (t.l.length : Int) := by omega
        rw [l1]
        have HF : Hid (shp t = (o0 && shps t.l)) := hidI (by rw [HSP.out, O0.out])
        clear l1
        go_wp2_with fail
        go_ret
        exact ⟨by rw [HF.out]; rfl, HB.out⟩
set_option maxRecDepth 100000 in
set_option maxHeartbeats 40000000 in
theorem rshaped_k6 (d : Nat) (ih : ShpC d) (w : World) (ok : Nat → Prop) (t : V) (v : Value) (h : VIs w ok (d + 1) t v) (hk : t.kind ≠ 0 ∧ t.kind ≠ 1 ∧ t.kind ≠ 2 ∧ t.kind ≠ 3 ∧ t.kind ≠ 4 ∧ t.kind ≠ 5) :
    Calls Tryd.prog 48 #[v] w fun e w' => e = .returned (.bool (shp t)) ∧ Below w.heap.size w w' := by
  have IH := hidI ih
  obtain ⟨a1, a2, c1, c2, rfl⟩ := h.shape
  have VV : Hid (ValsAre w ok (VIs w ok d) t.l (.slice a2 t.l.length c2) ∧ StrsAre w ok t.keys (.slice a1 t.keys.length c1) ∧ t.s.length ≤ 9223372036854775807) := hidI (by
    obtain ⟨ks, ls, e, h1, h2, h3, h4, h5⟩ := h
    simp only [Value.agg.injEq, Array.mk.injEq, List.cons.injEq, and_true] at e
    obtain ⟨-, -, -, rfl, rfl⟩ := e
    exact ⟨h5, h4, h3⟩)
  have ll : t.l.length ≤ 9223372036854775807 := VV.out.1.1
  have lk : t.keys.length ≤ 9223372036854775807 := VV.out.2.1.1
  have B1 := hidI (bel_alloc w (.cells #[.int .i64 t.kind, .int .i64 t.n, .string ⟨t.s.toArray⟩, .slice a1 t.keys.length c1, .slice a2 t.l.length c2] 25))
  have HK := hidI hk
  clear h ih hk
  go_enter Tryd.func48, Tryd.ntmps48
  go_upto_block 0 with fail
  go_cut [3] (fun b wc => b = .bool (shapedB t) ∧ BoxIs wc w.heap.size (.int .i64 t.kind) (.int .i64 t.n) (.string ⟨t.s.toArray⟩) (.slice a1 t.keys.length c1) (.slice a2 t.l.length c2) ∧ Below w.heap.size w wc)
  case first =>
    have hk := HK.out
    obtain ⟨n0, n1, n2, n3, n4, n5⟩ := hk
    have f0 : (t.kind == 0) = false := by rw [beq_eq_false_iff_ne]; exact n0
    have f1 : (t.kind == 1) = false := by rw [beq_eq_false_iff_ne]; exact n1
    have f2 : (t.kind == 2) = false := by rw [beq_eq_false_iff_ne]; exact n2
    have f3 : (t.kind == 3) = false := by rw [beq_eq_false_iff_ne]; exact n3
    have f4 : (t.kind == 4) = false := by rw [beq_eq_false_iff_ne]; exact n4
    have f5 : (t.kind == 5) = false := by rw [beq_eq_false_iff_ne]; exact n5
    have HR : Hid (shapedB t = false) := hidI (by simp [shapedB, n0, n1, n2, n3, n4, n5])
    clear n0 n1 n2 n3 n4 n5
    go_wp2_with fail
    go_meet
    case rel => exact ⟨by rw [HR.out], heap_alloc_new w _, B1.out⟩
  case rest =>
    obtain ⟨rfl, hc⟩ := hcut
    have C0 := hidI hc
    have HSP := hidI (shp_eq t)
    obtain ⟨y0, y1, y2, y3, y4, -⟩ := hc.1.c
    obtain ⟨o0, ho0⟩ : ∃ o, shapedB t = o := ⟨_, rfl⟩
    rw [ho0]
    have O0 := hidI ho0
    clear hc ho0
    go_wp2_with fail
    go_loopg [3, 179] t.l.length (fun gk b i wr => ∃ (k : Nat), k ≤ t.l.length ∧ gk = t.l.length - k ∧ i = .int .i64 k ∧ b = .bool (o0 && shps (t.l.take k)) ∧ Below w.heap.size w wr)
    case atStart => exact ⟨0, Nat.zero_le _, rfl, rfl, by simp [shps], C0.out.2⟩
    case round =>
      obtain ⟨k, hk, hgk, rfl, rfl, hb⟩ := hrel
      have GK := hidI hgk
      have HB := hidI hb
      clear hgk hb
      by_cases hlt : k < t.l.length
      · obtain ⟨b, off, rfl, z1, z2, a5, c5, a6, c6, p0, p1, p2, p3, p4, p5⟩ := vals_at VV.out.1 hlt
        unfold maxLen at z2
        replace p0 := cell_bel HB.out p0
        replace p1 := cell_bel HB.out p1
        replace p2 := cell_bel HB.out p2
        replace p3 := cell_bel HB.out p3
        replace p4 := cell_bel HB.out p4
        have P5 := hidI (p5.bel HB.out)
        have w1 : (0 : Int) ≤ (k : Int) := by omega
        have w2 : (k : Int) < (t.l.length : Int) := by omega
        have e1 : Hid (shps (t.l.take (k + 1)) = (shps (t.l.take k) && shp t.l[k])) := hidI (by rw [take_snocV hlt, shps_snoc])
        clear p5
        cases hoo : (o0 && shps (t.l.take k)) with
        | false =>
          have HN : Hid ((o0 && shps (t.l.take (k + 1))) = false) := hidI (by rw [e1.out, ← Bool.and_assoc, hoo]; rfl)
          clear hoo
          go_wp2_with fail
          go_roundg (t.l.length - (k + 1))
          case measure => rw [GK.out]; omega
          case rel => exact ⟨k + 1, hlt, rfl, by go_num, by rw [HN.out], bel_trans HB.out (bel_alloc _ _)⟩
        | true =>
          have HN : Hid ((o0 && shps (t.l.take (k + 1))) = shp t.l[k]) := hidI (by rw [e1.out, ← Bool.and_assoc, hoo]; rfl)
          clear hoo
          go_wp2_with fail
          refine (IH.out _ ok t.l[k] _ (by exact P5.out.bel (bel_alloc _ _))).mono ?_
          rintro e w4 ⟨rfl, hb4⟩
          have HB4 := hidI (bel_trans HB.out (bel_trans (bel_alloc _ _) hb4))
          clear hb4 p0 p1 p2 p3 p4
          go_wp2_with fail
          go_roundg (t.l.length - (k + 1))
          case measure => rw [GK.out]; omega
          case rel => exact ⟨k + 1, hlt, rfl, by go_num, by rw [HN.out], HB4.out⟩
      · have l1 : t.l.take k = t.l := List.take_of_length_le (by omega)
        have d1 : ¬ (k : Int) < (t.l.length : Int) := by omega
        rw [l1]
        have HF : Hid (shp t = (o0 && shps t.l)) := hidI (by rw [HSP.out, O0.out])
        clear l1
        go_wp2_with fail
        go_ret
        exact ⟨by rw [HF.out]; rfl, HB.out⟩
end Go.Proofs.YtaifciobaapehaaDoor

/- What shaped of package stairwellref does. -/
set_option linter.unusedSimpArgs false
set_option linter.unusedVariables false
namespace Go.Proofs.YtaifciobaapehaaDoor
open Go.RowKit
attribute [local go_sem ↓] Go.wp_at_zero Go.wp_at_succ

set_option maxRecDepth 100000 in
set_option maxHeartbeats 40000000 in
theorem rshaped_k5 (d : Nat) (ih : ShpC d) (w : World) (ok : Nat → Prop) (t : V) (v : Value) (h : VIs w ok (d + 1) t v) (hk : t.kind = 5) :
    Calls Tryd.prog 48 #[v] w fun e w' => e = .returned (.bool (shp t)) ∧ Below w.heap.size w w' := by
  have IH := hidI ih
  obtain ⟨a1, a2, c1, c2, rfl⟩ := h.shape
  have VV : Hid (ValsAre w ok (VIs w ok d) t.l (.slice a2 t.l.length c2) ∧ StrsAre w ok t.keys (.slice a1 t.keys.length c1) ∧ t.s.length ≤ 9223372036854775807) := hidI (by
    obtain ⟨ks, ls, e, h1, h2, h3, h4, h5⟩ := h
    simp only [Value.agg.injEq, Array.mk.injEq, List.cons.injEq, and_true] at e
    obtain ⟨-, -, -, rfl, rfl⟩ := e
    exact ⟨h5, h4, h3⟩)
  have ll : t.l.length ≤ 9223372036854775807 := VV.out.1.1
  have lk : t.keys.length ≤ 9223372036854775807 := VV.out.2.1.1
  have B1 := hidI (bel_alloc w (.cells #[.int .i64 t.kind, .int .i64 t.n, .string ⟨t.s.toArray⟩, .slice a1 t.keys.length c1, .slice a2 t.l.length c2] 25))
  have HK := hidI hk
  clear h ih hk
  go_enter Tryd.func48, Tryd.ntmps48
  go_upto_block 0 with fail
  go_cut [3] (fun b wc => b = .bool (shapedB t) ∧ BoxIs wc w.heap.size (.int .i64 t.kind) (.int .i64 t.n) (.string ⟨t.s.toArray⟩) (.slice a1 t.keys.length c1) (.slice a2 t.l.length c2) ∧ Below w.heap.size w wc)
  case first =>
    have hk := HK.out
    have f0 : (t.kind == 0) = false := by simp [hk]
    have f1 : (t.kind == 1) = false := by simp [hk]
    have f2 : (t.kind == 2) = false := by simp [hk]
    have f3 : (t.kind == 3) = false := by simp [hk]
    have f4 : (t.kind == 4) = false := by simp [hk]
    have g5 : (t.kind == 5) = true := by simp [hk]
    obtain ⟨o5, ho5⟩ : ∃ o, (decide (t.n = 0) && decide (t.s = []) && decide (t.keys.length = t.l.length)) = o := ⟨_, rfl⟩
    have S5 : Hid (shapedB t = (o5 && riseFrom none t.keys)) := hidI (by rw [shaped_five hk, ho5])
    have O5 := hidI ho5
    clear hk ho5
    go_upto_region 14 with fail
    go_cut [3] (fun b wc => b = .bool o5 ∧ BoxIs wc w.heap.size (.int .i64 t.kind) (.int .i64 t.n) (.string ⟨t.s.toArray⟩) (.slice a1 t.keys.length c1) (.slice a2 t.l.length c2) ∧ Below w.heap.size w wc)
    case first =>
      by_cases hN : t.n = 0
      · have qN : (t.n == 0) = true := by simp [hN]
        by_cases hS : t.s = []
        · have qS : (t.s == []) = true := by simp [hS]
          by_cases hM : t.keys.length = t.l.length
          · have qM : ((t.keys.length : Int) == (t.l.length : Int)) = true := by simp [hM]
            have HR : Hid (o5 = true) := hidI (by rw [← O5.out]; simp [hN, hS, hM])
            clear hN hS hM
            go_wp2_with fail
            go_meet
            case rel => exact ⟨by rw [HR.out], heap_alloc_new w _, B1.out⟩
          · have qM : ((t.keys.length : Int) == (t.l.length : Int)) = false := by rw [beq_eq_false_iff_ne]; omega
            have HR : Hid (o5 = false) := hidI (by rw [← O5.out]; simp [hN, hS, hM])
            clear hN hS hM
            go_wp2_with fail
            go_meet
            case rel => exact ⟨by rw [HR.out], heap_alloc_new w _, B1.out⟩
        · have qS : (t.s == []) = false := by simp [hS]
          have HR : Hid (o5 = false) := hidI (by rw [← O5.out]; simp [hN, hS])
          clear hN hS
          go_wp2_with fail
          go_meet
          case rel => exact ⟨by rw [HR.out], heap_alloc_new w _, B1.out⟩
      · have qN : (t.n == 0) = false := by simp [hN]
        have HR : Hid (o5 = false) := hidI (by rw [← O5.out]; simp [hN])
        clear hN
        go_wp2_with fail
        go_meet
        case rel => exact ⟨by rw [HR.out], heap_alloc_new w _, B1.out⟩
    case rest =>
      obtain ⟨rfl, hc⟩ := hcut
      have C0 := hidI hc
      obtain ⟨y0, y1, y2, y3, y4, -⟩ := hc.1.c
      clear hc
      go_wp2_with fail
      go_loopg [3, 145] t.keys.length (fun gk b i wr => ∃ (k : Nat) (o : Bool), k ≤ t.keys.length ∧ gk = t.keys.length - k ∧ i = .int .i64 k ∧ b = .bool o ∧ Hid (shapedB t = (o && riseFrom (prevAt t.keys k) (t.keys.drop k))) ∧ BoxIs wr w.heap.size (.int .i64 t.kind) (.int .i64 t.n) (.string ⟨t.s.toArray⟩) (.slice a1 t.keys.length c1) (.slice a2 t.l.length c2) ∧ Below w.heap.size w wr)
      case atStart => exact ⟨0, o5, Nat.zero_le _, rfl, rfl, rfl, hidI S5.out, C0.out⟩
      case round =>
        obtain ⟨k, o, hk, hgk, rfl, rfl, HS, hc⟩ := hrel
        have GK := hidI hgk
        have CC := hidI hc
        obtain ⟨y0, y1, y2, y3, y4, -⟩ := hc.1.c
        clear hgk hc
        by_cases hlt : k < t.keys.length
        · have w1 : (0 : Int) ≤ (k : Int) := by omega
          have w2 : (k : Int) < (t.keys.length : Int) := by omega
          have ST := hidI (riseFrom_step hlt)
          cases o with
          | false =>
            have HN : Hid (shapedB t = (false && riseFrom (prevAt t.keys (k + 1)) (t.keys.drop (k + 1)))) := hidI (by rw [HS.out]; rfl)
            clear HS ST
            go_wp2_with fail
            go_quiet (fail)
            all_goals
              go_wp2_with fail
              go_roundg (t.keys.length - (k + 1))
              case measure => rw [GK.out]; omega
              case rel => exact ⟨k + 1, false, hlt, rfl, by go_num, rfl, HN, by first | exact CC.out | exact ⟨box_bel (bel_drewN _ _) CC.out.1, bel_trans CC.out.2 (bel_drewN _ _)⟩ | exact ⟨box_bel (show Below wr.heap.size wr wr.drew from (Below.refl _ wr).drew) CC.out.1, bel_trans CC.out.2 (show Below wr.heap.size wr wr.drew from (Below.refl _ wr).drew)⟩⟩
          | true =>
            obtain ⟨kb, ko, rfl, z1, z2, hc1⟩ := strs_at VV.out.2.1 hlt
            unfold maxLen at z2
            have hcell := cell_bel CC.out.2 hc1
            have KLn : Hid (t.keys[k].length ≤ 9223372036854775807) := hidI (by
              rcases VV.out.2.1.2 with ⟨e, _⟩ | ⟨b, off, c', e, h1, h2, hcs⟩
              · rw [e] at hlt; simp at hlt
              · exact (hcs k t.keys[k] (List.getElem?_eq_getElem hlt)).1)
            have CALL : Hid (∀ (o : Bool), plainB t.keys[k] = o → ∀ (n : Nat) (os : Array Obj), Calls Tryd.prog 68 #[.string ⟨t.keys[k].toArray⟩] (Go.Sort.grow (wr.drewN n) os) fun e w'' => e = .returned (.bool o) ∧ ∃ p : GrownBy, w'' = Go.Sort.grow (wr.drewN p.n) p.os) := hidI (fun o ho n os => Calls.grown_of ((ascii_gr _ t.keys[k] KLn.out).mono fun e w4 h => ⟨by rw [← ho]; exact h.1, h.2⟩))
            have hmix : Tryd.prog.follows .mixedOrders = true := by kernel_rfl
            have s0 : ∀ n os, (Go.Sort.grow (wr.drewN n) os).cell? ⟨w.heap.size, 3, none⟩ = some (.slice (some ⟨kb, ko, none⟩) t.keys.length c1) := cell_grown CC.out.1.lt CC.out.1.c.2.2.2.1
            have s1 : ∀ n os, (Go.Sort.grow (wr.drewN n) os).cell? ⟨kb, ko + k, none⟩ = some (.string ⟨t.keys[k].toArray⟩) := cell_grown (World.block_lt_of_cell? wr _ hcell) hcell
            clear hc1
            cases hpl : plainB t.keys[k] with
            | false =>
              have HPL := hidI hpl
              have HN : Hid (shapedB t = (false && riseFrom (prevAt t.keys (k + 1)) (t.keys.drop (k + 1)))) := hidI (by rw [HS.out, ST.out, hpl]; rfl)
              clear hpl HS ST
              go_wp2_with fail
              refine wp_region_quiet_grown (by assumption) (by kernel_rfl) ?_
              repeat (first | go_big_quiet_step ((go_at_call 68; exact CALL.out _ HPL.out _ _)) | quiet_step ((go_at_call 68; exact CALL.out _ HPL.out _ _)))
              refine wpQuiet_nil ?_
              intro _ hw'
              obtain ⟨⟨nq, osq⟩, hw''⟩ := hw'
              subst hw''
              all_goals
                go_wp2_with fail
                go_roundg (t.keys.length - (k + 1))
                case measure => rw [GK.out]; omega
                case rel => exact ⟨k + 1, false, hlt, rfl, by go_num, rfl, HN, box_bel (bel_grow _ _ _) CC.out.1, bel_trans CC.out.2 (bel_grow _ _ _)⟩
            | true =>
              have HPL := hidI hpl
              clear hpl
              by_cases hk0 : k = 0
              · have e9 : ((k : Int) == 0) = true := by simp [hk0]
                have HN : Hid (shapedB t = (true && riseFrom (prevAt t.keys (k + 1)) (t.keys.drop (k + 1)))) := hidI (by rw [HS.out, ST.out, HPL.out, show prevAt t.keys k = none by simp [prevAt, hk0]]; rfl)
                clear HS ST hk0
                go_wp2_with fail
                refine wp_region_quiet_grown (by assumption) (by kernel_rfl) ?_
                repeat (first | go_big_quiet_step ((go_at_call 68; exact CALL.out _ HPL.out _ _)) | quiet_step ((go_at_call 68; exact CALL.out _ HPL.out _ _)))
                refine wpQuiet_nil ?_
                intro _ hw'
                obtain ⟨⟨nq, osq⟩, hw''⟩ := hw'
                subst hw''
                go_wp2_with fail
                go_roundg (t.keys.length - (k + 1))
                case measure => rw [GK.out]; omega
                case rel => exact ⟨k + 1, true, hlt, rfl, by go_num, rfl, HN, box_bel (bel_grow _ _ _) CC.out.1, bel_trans CC.out.2 (bel_grow _ _ _)⟩
              · have e9 : ((k : Int) == 0) = false := by rw [beq_eq_false_iff_ne]; omega
                obtain ⟨j, hj9⟩ : ∃ j, k = j + 1 := ⟨k - 1, by omega⟩
                have hj : j < t.keys.length := by omega
                obtain ⟨kb', ko', hke, -, -, hc2⟩ := strs_at VV.out.2.1 hj
                simp only [Option.some.injEq, Addr.mk.injEq, and_true] at hke
                obtain ⟨rfl, rfl⟩ := hke
                have hcell2 := cell_bel CC.out.2 hc2
                have j1 : (k : Int) - 1 = (j : Int) := by omega
                have j2 : (j : Int) < (t.keys.length : Int) := by omega
                have j3 : (0 : Int) ≤ (j : Int) := by omega
                have Z : Hid (prevAt t.keys k = some t.keys[j]) := hidI (by simp [prevAt, hk0, show k - 1 = j by omega, List.getElem?_eq_getElem hj])
                have s2 : ∀ n os, (Go.Sort.grow (wr.drewN n) os).cell? ⟨kb, ko + j, none⟩ = some (.string ⟨t.keys[j].toArray⟩) := cell_grown (World.block_lt_of_cell? wr _ hcell2) hcell2
                clear hc2 hk0 hj9
                cases hbl : Op.bytesLess t.keys[j] t.keys[k] with
                | true =>
                  have HN : Hid (shapedB t = (true && riseFrom (prevAt t.keys (k + 1)) (t.keys.drop (k + 1)))) := hidI (by rw [HS.out, ST.out, HPL.out, Z.out]; simp only [hbl]; rfl)
                  clear HS ST Z
                  go_wp2_with fail
                  refine wp_region_quiet_grown (by assumption) (by kernel_rfl) ?_
                  repeat (first | go_big_quiet_step ((go_at_call 68; exact CALL.out _ HPL.out _ _)) | quiet_step ((go_at_call 68; exact CALL.out _ HPL.out _ _)))
                  refine wpQuiet_nil ?_
                  intro _ hw'
                  obtain ⟨⟨nq, osq⟩, hw''⟩ := hw'
                  subst hw''
                  go_wp2_with fail
                  go_roundg (t.keys.length - (k + 1))
                  case measure => rw [GK.out]; omega
                  case rel => exact ⟨k + 1, true, hlt, rfl, by go_num, rfl, HN, box_bel (bel_grow _ _ _) CC.out.1, bel_trans CC.out.2 (bel_grow _ _ _)⟩
                | false =>
                  have HN : Hid (shapedB t = (false && riseFrom (prevAt t.keys (k + 1)) (t.keys.drop (k + 1)))) := hidI (by rw [HS.out, ST.out, HPL.out, Z.out]; simp only [hbl]; rfl)
                  clear HS ST Z
                  go_wp2_with fail
                  refine wp_region_quiet_grown (by assumption) (by kernel_rfl) ?_
                  repeat (first | go_big_quiet_step ((go_at_call 68; exact CALL.out _ HPL.out _ _)) | quiet_step ((go_at_call 68; exact CALL.out _ HPL.out _ _)))
                  refine wpQuiet_nil ?_
                  intro _ hw'
                  obtain ⟨⟨nq, osq⟩, hw''⟩ := hw'
                  subst hw''
                  go_wp2_with fail
                  go_roundg (t.keys.length - (k + 1))
                  case measure => rw [GK.out]; omega
                  case rel => exact ⟨k + 1, false, hlt, rfl, by go_num, rfl, HN, box_bel (bel_grow _ _ _) CC.out.1, bel_trans CC.out.2 (bel_grow _ _ _)⟩
        · have l1 : t.keys.drop k = [] := List.drop_eq_nil_of_le (by omega)
          have HN : Hid (shapedB t = o) := hidI (by rw [HS.out, l1]; simp [riseFrom])
          have d1 : ¬ (k : Int) < (t.keys.length : Int) := by omega
          clear l1
          go_wp2_with fail
          go_meet
          case rel => exact ⟨by rw [HN.out], CC.out⟩
  case rest =>
    obtain ⟨rfl, hc⟩ := hcut
    have C0 := hidI hc
    have HSP := hidI (shp_eq t)
    obtain ⟨y0, y1, y2, y3, y4, -⟩ := hc.1.c
    obtain ⟨o0, ho0⟩ : ∃ o, shapedB t = o := ⟨_, rfl⟩
    rw [ho0]
    have O0 := hidI ho0
    clear hc ho0
    go_wp2_with fail
    go_loopg [3, 179] t.l.length (fun gk b i wr => ∃ (k : Nat), k ≤ t.l.length ∧ gk = t.l.length - k ∧ i = .int .i64 k ∧ b = .bool (o0 && shps (t.l.take k)) ∧ Below w.heap.size w wr)
    case atStart => exact ⟨0, Nat.zero_le _, rfl, rfl, by simp [shps], C0.out.2⟩
    case round =>
      obtain ⟨k, hk, hgk, rfl, rfl, hb⟩ := hrel
      have GK := hidI hgk
      have HB := hidI hb
      clear hgk hb
      by_cases hlt : k < t.l.length
      · obtain ⟨b, off, rfl, z1, z2, a5, c5, a6, c6, p0, p1, p2, p3, p4, p5⟩ := vals_at VV.out.1 hlt
        unfold maxLen at z2
        replace p0 := cell_bel HB.out p0
        replace p1 := cell_bel HB.out p1
        replace p2 := cell_bel HB.out p2
        replace p3 := cell_bel HB.out p3
        replace p4 := cell_bel HB.out p4
        have P5 := hidI (p5.bel HB.out)
        have w1 : (0 : Int) ≤ (k : Int) := by omega
        have w2 : (k : Int) < (t.l.length : Int) := by omega
        have e1 : Hid (shps (t.l.take (k + 1)) = (shps (t.l.take k) && shp t.l[k])) := hidI (by rw [take_snocV hlt, shps_snoc])
        clear p5
        cases hoo : (o0 && shps (t.l.take k)) with
        | false =>
          have HN : Hid ((o0 && shps (t.l.take (k + 1))) = false) := hidI (by rw [e1.out, ← Bool.and_assoc, hoo]; rfl)
          clear hoo
          go_wp2_with fail
          go_roundg (t.l.length - (k + 1))
          case measure => rw [GK.out]; omega
          case rel => exact ⟨k + 1, hlt, rfl, by go_num, by rw [HN.out], bel_trans HB.out (bel_alloc _ _)⟩
        | true =>
          have HN : Hid ((o0 && shps (t.l.take (k + 1))) = shp t.l[k]) := hidI (by rw [e1.out, ← Bool.and_assoc, hoo]; rfl)
          clear hoo
          go_wp2_with fail
          refine (IH.out _ ok t.l[k] _ (by exact P5.out.bel (bel_alloc _ _))).mono ?_
          rintro e w4 ⟨rfl, hb4⟩
          have HB4 := hidI (bel_trans HB.out (bel_trans (bel_alloc _ _) hb4))
          clear hb4 p0 p1 p2 p3 p4
          go_wp2_with fail
          go_roundg (t.l.length - (k + 1))
          case measure => rw [GK.out]; omega
          case rel => exact ⟨k + 1, hlt, rfl, by go_num, by rw [HN.out], HB4.out⟩
      · have l1 : t.l.take k = t.l := List.take_of_length_le (by omega)
        have d1 : ¬ (k : Int) < (t.l.length : Int) := by omega
        rw [l1]
        have HF : Hid (shp t = (o0 && shps t.l)) := hidI (by rw [HSP.out, O0.out])
        clear l1
        go_wp2_with fail
        go_ret
        exact ⟨by rw [HF.out]; rfl, HB.out⟩
end Go.Proofs.YtaifciobaapehaaDoor

/- What shaped of package stairwellref does, of every kind. -/
set_option linter.unusedSimpArgs false
set_option linter.unusedVariables false
namespace Go.Proofs.YtaifciobaapehaaDoor
open Go.RowKit

theorem rshaped_all (d : Nat) : ShpC d := by
  induction d with
  | zero => exact fun _ _ _ _ h => h.elim
  | succ d ih =>
    intro w ok t v h
    by_cases h0 : t.kind = 0
    · exact rshaped_k0 d ih w ok t v h h0
    by_cases h1 : t.kind = 1
    · exact rshaped_k1 d ih w ok t v h h1
    by_cases h2 : t.kind = 2
    · exact rshaped_k2 d ih w ok t v h h2
    by_cases h3 : t.kind = 3
    · exact rshaped_k3 d ih w ok t v h h3
    by_cases h4 : t.kind = 4
    · exact rshaped_k4 d ih w ok t v h h4
    by_cases h5 : t.kind = 5
    · exact rshaped_k5 d ih w ok t v h h5
    exact rshaped_k6 d ih w ok t v h ⟨h0, h1, h2, h3, h4, h5⟩
end Go.Proofs.YtaifciobaapehaaDoor

/- What depthOf and ascii of package stairwellref do. -/
set_option linter.unusedSimpArgs false
set_option linter.unusedVariables false
namespace Go.Proofs.YtaifciobaapehaaDoor
open Go.RowKit

def DptC (d : Nat) : Prop := ∀ (w : World) (ok : Nat → Prop) (t : V) (v : Value), VIs w ok d t v → cnt t ≤ 1000000000000000 →
    Calls Tryd.prog 47 #[v] w fun e w' => e = .returned (.tuple #[.int .i64 (dpt t : Int), .int .i64 (cnt t : Int)]) ∧ Below w.heap.size w w'

set_option maxRecDepth 100000 in
set_option maxHeartbeats 8000000 in
theorem depthOf_succ (d : Nat) (ih : DptC d) : DptC (d + 1) := by
  intro w ok t v h hN
  have IH := hidI ih
  have H := hidI (h.is : In w ok t v)
  obtain ⟨a1, a2, c1, c2, rfl⟩ := h.shape
  have VV : Hid (ValsAre w ok (VIs w ok d) t.l (.slice a2 t.l.length c2)) := hidI (by
    obtain ⟨ks, ls, e, h1, h2, h3, h4, h5⟩ := h
    simp only [Value.agg.injEq, Array.mk.injEq, List.cons.injEq, and_true] at e
    obtain ⟨-, -, -, -, rfl⟩ := e
    exact h5)
  have ll : t.l.length ≤ 9223372036854775807 := VV.out.1
  have B1 := hidI (bel_alloc w (.cells #[.int .i64 t.kind, .int .i64 t.n, .string ⟨t.s.toArray⟩, .slice a1 t.keys.length c1, .slice a2 t.l.length c2] 25))
  have HC := hidI (cnt_eq t)
  have HDT := hidI (dpt_eq t)
  have HN := hidI hN
  clear h ih hN
  go_enter Tryd.func47, Tryd.ntmps47
  go_wp2_with fail
  go_loopg [4, 5, 13] t.l.length (fun gk dd n i wr => ∃ k : Nat, k ≤ t.l.length ∧ gk = t.l.length - k ∧ i = .int .i64 k ∧ dd = .int .i64 (dpts (t.l.take k) : Int) ∧ n = .int .i64 ((1 + cnts (t.l.take k) : Nat) : Int) ∧ Below w.heap.size w wr)
  case atStart => exact ⟨0, Nat.zero_le _, rfl, rfl, rfl, rfl, B1.out⟩
  case round =>
    obtain ⟨k, hk, hgk, rfl, rfl, rfl, hb⟩ := hrel
    have GK := hidI hgk
    have HB := hidI hb
    have q1 := cnts_take (xs := t.l) k
    have q2 := dpts_cnt (t.l.take k)
    have q3 : cnts t.l ≤ 1000000000000000 := by have := HC.out; have := HN.out; omega
    clear hgk hb
    by_cases hlt : k < t.l.length
    · obtain ⟨b, off, rfl, z1, z2, a5, c5, a6, c6, p0, p1, p2, p3, p4, p5⟩ := vals_at VV.out hlt
      unfold maxLen at z2
      replace p0 := cell_bel HB.out p0
      replace p1 := cell_bel HB.out p1
      replace p2 := cell_bel HB.out p2
      replace p3 := cell_bel HB.out p3
      replace p4 := cell_bel HB.out p4
      have P5 := hidI (p5.bel HB.out)
      have w1 : (0 : Int) ≤ (k : Int) := by omega
      have w2 : (k : Int) < (t.l.length : Int) := by omega
      have hx := cnts_mem (List.getElem_mem hlt)
      have hxd := dpt_cnt t.l[k]
      have hxn : cnt t.l[k] ≤ 1000000000000000 := by omega
      have e1 : Hid (dpts (t.l.take (k + 1)) = max (dpts (t.l.take k)) (dpt t.l[k])) := hidI (by rw [take_snocV hlt, dpts_snoc])
      have e2 : Hid (cnts (t.l.take (k + 1)) = cnts (t.l.take k) + cnt t.l[k]) := hidI (by rw [take_snocV hlt, cnts_snoc])
      have q4 := cnts_take (xs := t.l) (k + 1)
      have q5 : cnts (t.l.take k) + cnt t.l[k] ≤ 1000000000000000 := by have := e2.out; omega
      clear p5 q4
      obtain ⟨x, hxe⟩ : ∃ x, dpt t.l[k] = x := ⟨_, rfl⟩
      obtain ⟨m, hme⟩ : ∃ m, cnt t.l[k] = m := ⟨_, rfl⟩
      obtain ⟨dd, hdd⟩ : ∃ m, dpts (t.l.take k) = m := ⟨_, rfl⟩
      obtain ⟨nn, hnn⟩ : ∃ m, cnts (t.l.take k) = m := ⟨_, rfl⟩
      rw [hme] at q5 hx hxn hxd
      rw [hxe] at hxd
      rw [hdd] at q2 ⊢
      rw [hnn] at q1 q2 q5 ⊢
      have X1 := hidI hxe
      have X2 := hidI hme
      have X3 := hidI hdd
      have X4 := hidI hnn
      have XN := hidI hxn
      clear hxe hme hdd hnn hxn
      go_wp2_with fail
      refine (IH.out _ ok t.l[k] _ (by exact P5.out.bel (bel_alloc _ _)) (by rw [X2.out]; exact XN.out)).mono ?_
      rintro e w4 ⟨rfl, hb4⟩
      rw [X1.out, X2.out]
      have HB4 := hidI (bel_trans HB.out (bel_trans (bel_alloc _ _) hb4))
      clear hb4 p0 p1 p2 p3 p4
      by_cases hmx : dd ≤ x
      · have m1 : max (dd : Int) (x : Int) = (x : Int) := by omega
        go_wp2_with fail
        go_roundg (t.l.length - (k + 1))
        case measure => rw [GK.out]; omega
        case rel => exact ⟨k + 1, hlt, rfl, by go_num, by rw [e1.out, X1.out, X3.out, Nat.max_eq_right hmx], by rw [e2.out, X2.out, X4.out]; go_num, HB4.out⟩
      · have m1 : max (dd : Int) (x : Int) = (dd : Int) := by omega
        go_wp2_with fail
        go_roundg (t.l.length - (k + 1))
        case measure => rw [GK.out]; omega
        case rel => exact ⟨k + 1, hlt, rfl, by go_num, by rw [e1.out, X1.out, X3.out, Nat.max_eq_left (by omega)], by rw [e2.out, X2.out, X4.out]; go_num, HB4.out⟩
    · have l1 : t.l.take k = t.l := List.take_of_length_le (by omega)
      have d1 : ¬ (k : Int) < (t.l.length : Int) := by omega
      rw [l1] at q2 q1 ⊢
      have F1 : Hid (((dpts t.l : Int) + 1) = (dpt t : Int)) := hidI (by rw [HDT.out]; omega)
      have F2 : Hid (((1 + cnts t.l : Nat) : Int) = (cnt t : Int)) := hidI (by rw [HC.out])
      clear l1
      go_wp2_with fail
      go_ret2
      exact ⟨by rw [← F1.out, ← F2.out]; rfl, HB.out⟩
theorem depthOf_all (d : Nat) : DptC d := by
  induction d with
  | zero => exact fun _ _ _ _ h => h.elim
  | succ d ih => exact depthOf_succ d ih
theorem depthOf_is (w : World) (ok : Nat → Prop) (t : V) (v : Value) (h : In w ok t v) (hN : cnt t ≤ 1000000000000000) :
    Calls Tryd.prog 47 #[v] w fun e w' => e = .returned (.tuple #[.int .i64 (dpt t : Int), .int .i64 (cnt t : Int)]) ∧ Below w.heap.size w w' := by
  obtain ⟨d, h⟩ := h; exact depthOf_all d w ok t v h hN
end Go.Proofs.YtaifciobaapehaaDoor

/- What GoodValue of package stairwellref answers: what Good answers. -/
set_option linter.unusedSimpArgs false
set_option linter.unusedVariables false
namespace Go.Proofs.YtaifciobaapehaaDoor
open Go.RowKit

theorem rshaped_is (w : World) (ok : Nat → Prop) (t : V) (v : Value) (h : In w ok t v) :
    Calls Tryd.prog 48 #[v] w fun e w' => e = .returned (.bool (shp t)) ∧ Below w.heap.size w w' := by
  obtain ⟨d, h⟩ := h; exact rshaped_all d w ok t v h
set_option maxRecDepth 100000 in
set_option maxHeartbeats 8000000 in
theorem rgood_is (w : World) (ok : Nat → Prop) (t : V) (v : Value) (h : In w ok t v) (hN : cnt t ≤ 1000000000000000) :
    Calls Tryd.prog 27 #[v] w fun e w' => e = .returned (.bool (goodV t)) ∧ Below w.heap.size w w' := by
  have H := hidI h
  have HG := hidI (good_ref t)
  have hd := dpt_cnt t
  obtain ⟨a1, a2, c1, c2, rfl⟩ := h.form
  clear h
  have HN := hidI hN
  obtain ⟨x, hx⟩ : ∃ x, dpt t = x := ⟨_, rfl⟩
  obtain ⟨m, hm⟩ : ∃ m, cnt t = m := ⟨_, rfl⟩
  rw [hm] at hd hN
  rw [hx] at hd
  have X := hidI hx
  have M := hidI hm
  clear hx hm
  go_enter Tryd.func27, Tryd.ntmps27
  go_wp2_with fail
  refine (depthOf_is _ ok t _ (by exact H.out.bel (bel_alloc _ _)) HN.out).mono ?_
  rintro e w1 ⟨rfl, hb1⟩
  rw [X.out, M.out]
  have K1 : Hid (BoxIs w1 w.heap.size (.int .i64 t.kind) (.int .i64 t.n) (.string ⟨t.s.toArray⟩) (.slice a1 t.keys.length c1) (.slice a2 t.l.length c2) ∧ Below w.heap.size w w1) := hidI ⟨box_bel hb1 (heap_alloc_new w _), bel_trans (bel_alloc _ _) hb1⟩
  clear hb1
  obtain ⟨y0, y1, y2, y3, y4, -⟩ := K1.out.1.c
  by_cases h1 : x ≤ 12
  · have q1 : (x : Int) ≤ 12 := by omega
    by_cases h2 : m ≤ 120
    · have q2 : (m : Int) ≤ 120 := by omega
      have HR : Hid (goodV t = shp t) := hidI (by rw [← HG.out, X.out, M.out]; simp [h1, h2])
      clear h1 h2
      go_wp2_with fail
      refine (rshaped_is _ ok t _ (by exact H.out.bel K1.out.2)).mono ?_
      rintro e w2 ⟨rfl, hb2⟩
      have B2 := hidI (bel_trans K1.out.2 hb2)
      clear hb2
      go_wp2_with fail
      go_ret
      exact ⟨by rw [HR.out]; rfl, B2.out⟩
    · have q2 : ¬ (m : Int) ≤ 120 := by omega
      have HR : Hid (goodV t = false) := hidI (by rw [← HG.out, X.out, M.out]; simp [h2])
      clear h1 h2
      go_wp2_with fail
      go_ret
      exact ⟨by rw [HR.out]; rfl, K1.out.2⟩
  · have q1 : ¬ (x : Int) ≤ 12 := by omega
    have HR : Hid (goodV t = false) := hidI (by rw [← HG.out, X.out, M.out]; simp [h1])
    clear h1
    go_wp2_with fail
    go_ret
    exact ⟨by rw [HR.out]; rfl, K1.out.2⟩
end Go.Proofs.YtaifciobaapehaaDoor

set_option linter.unusedSimpArgs false
set_option linter.unusedVariables false
namespace Go.Proofs.YtaifciobaapehaaDoor
open Go.RowKit

theorem idx_drop {key : List UInt8} {xs : List (List UInt8)} {k : Nat} (h : k < xs.length) (hne : xs[k] ≠ key) : (idxL key (xs.drop k)).map (· + k) = (idxL key (xs.drop (k + 1))).map (· + (k + 1)) := by
  rw [List.drop_eq_getElem_cons h, idxL, if_neg hne]
  cases idxL key (xs.drop (k + 1)) with
  | none => rfl
  | some i => simp; omega

set_option maxRecDepth 100000 in
set_option maxHeartbeats 40000000 in
theorem rmember_is (w : World) (ok : Nat → Prop) (t : V) (v : Value) (key : List UInt8) (h : In w ok t v) :
    Calls Tryd.prog 36 #[v, str key] w fun e w' => ∃ x, e = .returned (.tuple #[x, .bool (memV t key).isSome]) ∧ Below w.heap.size w w' ∧ In w' ok ((memV t key).getD zeroT) x := by
  have H := hidI h
  obtain ⟨l1, l2, l3⟩ := h.lens
  obtain ⟨a1, a2, c1, c2, rfl⟩ := h.form
  clear h
  unfold str
  have B2 : Hid (∀ o1 o2, Below w.heap.size w ((w.alloc o1).alloc o2)) := fun o1 o2 => bel_trans (bel_alloc _ _) (bel_alloc _ _)
  by_cases hk : t.kind = 5
  · have e0 : (t.kind != 5) = false := by rw [hk]; rfl
    by_cases hl : t.keys.length = t.l.length
    · have e1 : ((t.keys.length : Int) != (t.l.length : Int)) = false := by simp [hl]
      have HM : Hid (memV t key = (idxL key t.keys).bind fun i => t.l[i]?) := hidI (by simp [memV, findV, pairedV, hk, hl])
      have HL := hidI hl
      clear hk hl
      go_enter Tryd.func36, Tryd.ntmps36
      go_wp2_with fail
      go_loop [23] (fun i => ∃ k : Nat, k ≤ t.keys.length ∧ i = .int .i64 k ∧ Hid (idxL key t.keys = (idxL key (t.keys.drop k)).map (· + k))) (fun i => t.keys.length - (intOf i).toNat)
      case atStart => exact ⟨0, Nat.zero_le _, rfl, hidI (by simp)⟩
      case round =>
        obtain ⟨k, hk, rfl, HI⟩ := hrel
        by_cases hlt : k < t.keys.length
        · have hlt' : k < t.l.length := by have := HL.out; omega
          obtain ⟨kb, ko, rfl, j1, j2, jk, jl⟩ := H.out.key hlt
          obtain ⟨xb, xo, b5, d5, b6, d6, rfl, j3, j4, g0, g1, g2, g3, g4, g5⟩ := H.out.item hlt'
          have w1 : (0 : Int) ≤ (k : Int) := by omega
          have w2 : (k : Int) < (t.keys.length : Int) := by omega
          have w3 : (k : Int) < (t.l.length : Int) := by omega
          have hbb := B2.out (.cells #[.int .i64 t.kind, .int .i64 t.n, .string ⟨t.s.toArray⟩, .slice (some ⟨kb, ko, none⟩) t.keys.length c1, .slice (some ⟨xb, xo, none⟩) t.l.length c2] 25) (.cells #[.int .i64 0, .int .i64 0, .string ⟨#[]⟩, .slice none 0 0, .slice none 0 0] 25)
          replace jk := cell_bel hbb jk
          replace g0 := cell_bel hbb g0
          replace g1 := cell_bel hbb g1
          replace g2 := cell_bel hbb g2
          replace g3 := cell_bel hbb g3
          replace g4 := cell_bel hbb g4
          have G5 := hidI g5
          clear g5 hbb
          by_cases he : t.keys[k] = key
          · have e3 : (t.keys[k] == key) = true := by rw [beq_iff_eq]; exact he
            have HX : Hid (memV t key = some t.l[k]) := hidI (by
              rw [HM.out, HI.out, List.drop_eq_getElem_cons hlt, idxL, if_pos he]
              simp [List.getElem?_eq_getElem hlt'])
            clear he
            have BX := hidI (G5.out.bel (B2.out (.cells #[.int .i64 t.kind, .int .i64 t.n, .string ⟨t.s.toArray⟩, .slice (some ⟨kb, ko, none⟩) t.keys.length c1, .slice (some ⟨xb, xo, none⟩) t.l.length c2] 25) (.cells #[.int .i64 t.l[k].kind, .int .i64 t.l[k].n, .string ⟨t.l[k].s.toArray⟩, .slice b5 t.l[k].keys.length d5, .slice b6 t.l[k].l.length d6] 25)))
            go_wp2_with fail
            refine bodyPost_ret (v := .tuple #[.agg #[.int .i64 t.l[k].kind, .int .i64 t.l[k].n, .string ⟨t.l[k].s.toArray⟩, .slice b5 t.l[k].keys.length d5, .slice b6 t.l[k].l.length d6], .bool true]) ?_ rfl ?_
            · simp [results, Tryd.results36, go_sem]
            · exact ⟨_, by rw [HX.out]; rfl, B2.out _ _, by rw [HX.out]; exact BX.out⟩
          · have e3 : (t.keys[k] == key) = false := by rw [beq_eq_false_iff_ne]; exact he
            have HN : Hid (idxL key t.keys = (idxL key (t.keys.drop (k + 1))).map (· + (k + 1))) := hidI (by rw [HI.out, idx_drop hlt he])
            clear he
            go_wp2_with fail
            go_round
            case rel => exact ⟨k + 1, by omega, by go_num, HN⟩
            case measure => simp [intOf]; omega
        · have l1 : t.keys.drop k = [] := List.drop_eq_nil_of_le (by omega)
          have d1 : ¬ (k : Int) < (t.keys.length : Int) := by omega
          have HM2 : Hid (memV t key = none) := hidI (by rw [HM.out, HI.out, l1]; rfl)
          clear HM l1
          have HM := HM2
          go_wp2_with fail
          refine bodyPost_ret (v := .tuple #[.agg #[.int .i64 0, .int .i64 0, .string ⟨#[]⟩, .slice none 0 0, .slice none 0 0], .bool false]) ?_ rfl ?_
          · simp [results, Tryd.results36, go_sem]
          · exact ⟨_, by rw [HM.out]; rfl, B2.out _ _, by rw [HM.out]; exact in_zero _ _⟩
    · have e1 : ((t.keys.length : Int) != (t.l.length : Int)) = true := by rw [bne_iff_ne]; omega
      have HM : Hid (memV t key = none) := hidI (by simp [memV, findV, pairedV, hl])
      clear hk hl
      go_enter Tryd.func36, Tryd.ntmps36
      go_wp2_with fail
      refine bodyPost_ret (v := .tuple #[.agg #[.int .i64 0, .int .i64 0, .string ⟨#[]⟩, .slice none 0 0, .slice none 0 0], .bool false]) ?_ rfl ?_
      · simp [results, Tryd.results36, go_sem]
      · exact ⟨_, by rw [HM.out]; rfl, B2.out _ _, by rw [HM.out]; exact in_zero _ _⟩
  · have e0 : (t.kind != 5) = true := by rw [bne_iff_ne]; exact hk
    have HM : Hid (memV t key = none) := hidI (by simp [memV, findV, pairedV, hk])
    clear hk
    go_enter Tryd.func36, Tryd.ntmps36
    go_wp2_with fail
    refine bodyPost_ret (v := .tuple #[.agg #[.int .i64 0, .int .i64 0, .string ⟨#[]⟩, .slice none 0 0, .slice none 0 0], .bool false]) ?_ rfl ?_
    · simp [results, Tryd.results36, go_sem]
    · exact ⟨_, by rw [HM.out]; rfl, B2.out _ _, by rw [HM.out]; exact in_zero _ _⟩
end Go.Proofs.YtaifciobaapehaaDoor

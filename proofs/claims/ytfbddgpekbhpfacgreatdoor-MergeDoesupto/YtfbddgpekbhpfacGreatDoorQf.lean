/- What Print of package json does. -/
import Derived.Test.YtfbddgpekbhpfacGreatDoorQe
import Derived.Test.YtfbddgpekbhpfacGreatDoorUp
set_option linter.unusedSimpArgs false
set_option linter.unusedVariables false
namespace Go.Proofs.YtfbddgpekbhpfacGreatDoor
open Go.RowKit

theorem rise_len : ∀ (ks : List (List UInt8)) (p : Option (List UInt8)), riseFrom p ks = true → ∀ k ∈ ks, k.length ≤ 60
  | [], _, _, k, hk => by simp at hk
  | x :: ks, p, h, k, hk => by
    simp only [riseFrom, Bool.and_eq_true] at h
    rcases List.mem_cons.1 hk with rfl | hk
    · have := h.1.1; simp only [plainB, Bool.and_eq_true, decide_eq_true_eq] at this; exact this.1
    · exact rise_len ks _ h.2 k hk
theorem shaped_small {t : V} (h : shapedB t = true) : t.s.length ≤ 60 ∧ (t.kind ≠ 4 → t.l.length ≤ t.keys.length) ∧ (∀ k ∈ t.keys, k.length ≤ 60) ∧ -9007199254740992 ≤ t.n ∧ t.n ≤ 9007199254740992 := by
  have nk : t.keys.length = 0 → ∀ k ∈ t.keys, k.length ≤ 60 := fun e k hk => by rw [List.eq_nil_of_length_eq_zero e] at hk; simp at hk
  unfold shapedB at h
  split at h
  · simp only [listlessB, Bool.and_eq_true, decide_eq_true_eq] at h
    obtain ⟨⟨h1, h2⟩, h3, h4⟩ := h
    exact ⟨by rw [h2]; simp, fun _ => by omega, nk h3, by omega, by omega⟩
  split at h
  · simp only [listlessB, Bool.and_eq_true, Bool.or_eq_true, decide_eq_true_eq] at h
    obtain ⟨⟨h1, h2⟩, h3, h4⟩ := h
    exact ⟨by rw [h2]; simp, fun _ => by omega, nk h3, by omega, by omega⟩
  split at h
  · simp only [listlessB, Bool.and_eq_true, decide_eq_true_eq] at h
    obtain ⟨⟨⟨h0, h1⟩, h2⟩, h3, h4⟩ := h
    exact ⟨by rw [h2]; simp, fun _ => by omega, nk h3, by omega, by omega⟩
  split at h
  · simp only [listlessB, plainB, Bool.and_eq_true, decide_eq_true_eq] at h
    obtain ⟨⟨h1, h2, _⟩, h3, h4⟩ := h
    exact ⟨h2, fun _ => by omega, nk h3, by omega, by omega⟩
  split at h
  · rename_i hk
    simp only [Bool.and_eq_true, decide_eq_true_eq] at h
    obtain ⟨⟨h1, h2⟩, h3⟩ := h
    exact ⟨by rw [h2]; simp, fun e => absurd hk e, nk h3, by omega, by omega⟩
  split at h
  · simp only [Bool.and_eq_true, decide_eq_true_eq] at h
    obtain ⟨⟨⟨h1, h2⟩, h3⟩, h4⟩ := h
    exact ⟨by rw [h2]; simp, fun _ => by omega, rise_len _ _ h4, by omega, by omega⟩
  · cases h
theorem good_small (d : Nat) : ∀ (D : Nat) (t : V) (r p : Int), goodS D t r = (true, p) → SmallV d t := by
  induction d with
  | zero => intro D t r p _; trivial
  | succ d ih =>
    intro D t r p h
    obtain ⟨D', rfl, hs, h0, hf⟩ := goodS_succ h
    obtain ⟨s1, s2, s3, -, -⟩ := shaped_small hs
    refine ⟨by omega, s2, fun k hk => Nat.le_trans (s3 k hk) (by decide), ?_⟩
    have : ∀ (l : List V) (r p : Int), gfold D' l r = (true, p) → ∀ x ∈ l, SmallV d x := by
      intro l
      induction l with
      | nil => intro r p _ x hx; simp at hx
      | cons y l ihl =>
        intro r p hf x hx
        obtain ⟨q, h1, h2⟩ := gfold_cons hf
        rcases List.mem_cons.1 hx with rfl | hx
        · exact ih D' _ r q h1
        · exact ihl q p h2 x hx
    exact this t.l _ _ hf
theorem comma_len (x : List UInt8) (xs : List (List UInt8)) : (commaS (x :: xs)).length ≤ x.length + 1 + (commaS xs).length := by
  cases xs with
  | nil => simp [commaS]
  | cons y ys => simp only [commaS, List.length_append, List.length_cons]; omega
theorem quote_len (s : List UInt8) (h : s.length ≤ 60) : (quoteS s).length ≤ 362 := by
  have := flat_len s
  simp only [quoteS, List.length_append, List.length_cons, List.length_nil]; omega
theorem good_len (d : Nat) : ∀ (D : Nat) (t : V) (r p : Int), 0 ≤ r → goodS D t r = (true, p) → ((printS d t).length : Int) + 400 ≤ 1000 * (r - p) := by
  induction d with
  | zero =>
    intro D t r p hr h
    obtain ⟨D', rfl, hs, h0, hf⟩ := goodS_succ h
    have := (fold_room (goodS_room D') t.l (r - 1) h0).2.1
    have e : (gfold D' t.l (r - 1)).2 = p := by rw [hf]
    unfold gfold at e
    rw [e] at this
    simp only [printS, List.length_nil]; omega
  | succ d ih =>
    intro D t r p hr h
    obtain ⟨D', rfl, hs, h0, hf⟩ := goodS_succ h
    have hp : p ≤ r - 1 := by
      have := (fold_room (goodS_room D') t.l (r - 1) h0).2.1
      have e : (gfold D' t.l (r - 1)).2 = p := by rw [hf]
      unfold gfold at e
      rwa [e] at this
    obtain ⟨s1, s2, s3, s4, s5⟩ := shaped_small hs
    have sums : ∀ (l : List V) (ks : List (List UInt8)) (r p : Int), 0 ≤ r → (∀ k ∈ ks, k.length ≤ 60) → gfold D' l r = (true, p) → ((commaS (l.map (printS d))).length : Int) ≤ 1000 * (r - p) ∧ ((commaS (pairS (printS d) ks l)).length : Int) ≤ 1000 * (r - p) := by
      intro l
      induction l with
      | nil =>
        intro ks r p _ _ hf
        have e : (true, r) = (true, p) := hf
        cases e
        simp [commaS, pairS]
      | cons x l ihl =>
        intro ks r p hr hks hf
        obtain ⟨q, h1, h2⟩ := gfold_cons hf
        have g1 := ih D' x r q hr h1
        have hq : 0 ≤ q := by have := (goodS_room D' x r hr).2.2; rw [h1] at this; exact this rfl
        constructor
        · obtain ⟨g2, -⟩ := ihl [] q p hq (by simp) h2
          have := comma_len (printS d x) (l.map (printS d))
          simp only [List.map_cons]; omega
        · cases ks with
          | nil =>
            obtain ⟨-, g2⟩ := ihl [] q p hq (by simp) h2
            simp only [pairS, List.zipWith_nil_left, commaS, List.length_nil] at g2 ⊢
            omega
          | cons k ks =>
            obtain ⟨-, g2⟩ := ihl ks q p hq (fun j hj => hks j (List.mem_cons_of_mem _ hj)) h2
            have := comma_len (quoteS k ++ 58 :: printS d x) (pairS (printS d) ks l)
            have h9 := quote_len k (hks k (List.mem_cons_self ..))
            simp only [List.length_append, List.length_cons] at this
            simp only [pairS, List.zipWith_cons_cons] at this g2 ⊢
            omega
    obtain ⟨m1, m2⟩ := sums t.l t.keys (r - 1) p h0 s3 hf
    have hi := Lib.itoa_length_le t.n (by omega) (by omega)
    have hq := quote_len t.s s1
    simp only [printS]
    split
    · simp only [List.length_cons, List.length_nil]; omega
    split
    · unfold boolS; split <;> simp only [List.length_cons, List.length_nil] <;> omega
    split
    · omega
    split
    · omega
    split
    · simp only [List.length_append, List.length_cons, List.length_nil]; omega
    · simp only [List.length_append, List.length_cons, List.length_nil]; omega

def printR (d : Nat) (t : V) : List UInt8 × Int := if goodV t then (if (printS d t).length ≤ 2000 then (printS d t, 0) else ([], 2)) else ([], 1)

set_option maxRecDepth 100000 in
set_option maxHeartbeats 4000000 in
theorem Print_at (w : World) (ok : Nat → Prop) (d : Nat) (t : V) (v : Value) (h : VIs w ok d t v) (hG : Glob w) :
    Calls Tryz.prog 20 #[v] w fun e w' => ∃ (l : List UInt8) (ee : Int), e = .returned (.tuple #[.string ⟨l.toArray⟩, .int .i64 ee]) ∧ printR d t = (l, ee) ∧ Below w.heap.size w w' := by
  obtain ⟨a7, a8, c7, c8, rfl⟩ := h.shape
  have HV := hidI h
  have HG := hidI hG
  clear h hG
  cases hgd : goodV t with
  | false =>
    have P : Hid (printR d t = ([], 1)) := hidI (by simp [printR, hgd])
    have HGD := hidI hgd
    clear hgd
    go_enter Tryz.func20, Tryz.ntmps20
    go_wp2_with fail
    refine (Good_at _ ok d t _ (by exact HV.out.bel (bel_alloc _ _))).mono ?_
    rintro e w2 ⟨rfl, hb2⟩
    rw [HGD.out]
    have B2 := hidI (bel_trans (bel_alloc w _) hb2)
    clear hb2
    go_wp2_with fail
    refine bodyPost_ret (v := .tuple #[.string ⟨#[]⟩, .int .i64 1]) (by simp [results, Tryz.results20, go_sem] <;> rfl) rfl ?_
    exact ⟨[], 1, rfl, P.out, B2.out⟩
  | true =>
    have HGD := hidI hgd
    have P : Hid (printR d t = if (printS d t).length ≤ 2000 then (printS d t, 0) else ([], 2)) := hidI (by simp [printR, hgd])
    have hg : goodS 12 t 120 = (true, (goodS 12 t 120).2) := by unfold goodV at hgd; rw [← hgd]
    have hln : ((printS d t).length : Int) ≤ 122000 := by
      have h1 := good_len d 12 t 120 _ (by decide) hg
      have h2 := (goodS_room 12 t 120 (by decide)).1
      omega
    have SM : Hid (SmallV d t) := good_small d 12 t 120 _ hg
    clear hgd hg
    go_enter Tryz.func20, Tryz.ntmps20
    go_wp2_with fail
    refine (Good_at _ ok d t _ (by exact HV.out.bel (bel_alloc _ _))).mono ?_
    rintro e w2 ⟨rfl, hb2⟩
    rw [HGD.out]
    obtain ⟨p0, p1, p2, p3, p4, -⟩ := (box_bel hb2 (heap_alloc_new w _)).c
    have V2 := hidI ((HV.out.bel (bel_trans (bel_alloc w _) hb2)).below.weak (ok' := fun k => k < w2.heap.size) fun k hk => hk.2)
    have B2 := hidI (bel_trans (bel_alloc w _) hb2)
    have G2 : Hid (Glob w2) := HG.out.grown (gb_below (r := none) B2.out) (by simp)
    have hsz := G2.out.size
    clear hb2
    go_wp2_with fail
    refine (app_all d w2 w2.heap.size (.slice none 0 0) [] t _ V2.out SM.out (BRow.nil _ _) (Nat.le_refl _) G2.out hsz (by simp only [List.length_nil]; omega)).mono ?_
    rintro e w3 ⟨v3, rfl, h3, hb3⟩
    rw [List.nil_append] at h3
    have B3 : Hid (Below w.heap.size w w3) := bel_trans B2.out hb3.1
    clear hb3
    rcases h3.2 with ⟨hv, hn⟩ | ⟨g, cap, cur, hv, -, -, hn1, hn2, -, -⟩
    · subst hv
      have hnil : printS d t = [] := List.eq_nil_of_length_eq_zero hn
      have hcv := run_convert_bytes_nil (P := Tryz.prog) (w := w3) 50 5 Tryz.underlying50 Tryz.underlying5 0 0
      have HN := hidI hnil
      clear h3 hn hnil
      go_wp2_with fail
      refine bodyPost_ret (v := .tuple #[.string ⟨#[]⟩, .int .i64 0]) (by simp [results, Tryz.results20, go_sem] <;> rfl) rfl ?_
      exact ⟨[], 0, rfl, by rw [P.out, HN.out]; rfl, B3.out⟩
    · subst hv
      unfold maxLen at hn2
      have hcv := run_convert_bytes_back (P := Tryz.prog) w3 50 9 5 ⟨g, 0, none⟩ cap (printS d t) Tryz.underlying50 Tryz.underlying5 Tryz.underlying9 (fun j hj => World.ownsRow.cells h3 (g := g) rfl j _ (by simp [Lib.byteCells, hj]))
      clear h3
      by_cases hle : (printS d t).length ≤ 2000
      · have c1 : ¬ (2000 < ((printS d t).length : Int)) := by omega
        go_wp2_with fail
        refine bodyPost_ret (v := .tuple #[.string ⟨(printS d t).toArray⟩, .int .i64 0]) (by simp [results, Tryz.results20, go_sem] <;> rfl) rfl ?_
        exact ⟨printS d t, 0, rfl, by rw [P.out, if_pos hle], B3.out⟩
      · have c1 : 2000 < ((printS d t).length : Int) := by omega
        clear hcv
        go_wp2_with fail
        refine bodyPost_ret (v := .tuple #[.string ⟨#[]⟩, .int .i64 2]) (by simp [results, Tryz.results20, go_sem] <;> rfl) rfl ?_
        exact ⟨[], 2, rfl, by rw [P.out, if_neg hle], B3.out⟩
end Go.Proofs.YtfbddgpekbhpfacGreatDoor

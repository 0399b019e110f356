/- What Split of package point does. -/
import Derived.Test.YtaifciobaapehaaDoorWc
import Derived.Test.YtaifciobaapehaaDoorCh
import Derived.Lib.SplitLaws
set_option linter.unusedSimpArgs false
set_option linter.unusedVariables false
namespace Go.Proofs.YtaifciobaapehaaDoor
open Go.RowKit

theorem split_lens (a : UInt8) (s : List UInt8) : ∀ x ∈ Lib.split s [a], x.length ≤ s.length := by
  induction s with
  | nil => rw [split_nil]; simp
  | cons b r ih =>
    by_cases h : b = a
    · subst h
      rw [split_sep]
      intro x hx
      rcases List.mem_cons.1 hx with rfl | hx
      · simp
      · have := ih x hx
        simp only [List.length_cons]; omega
    · rw [split_other a b r h]
      cases hr : Lib.split r [a] with
      | nil => exact absurd hr (split_ne a r)
      | cons y ys =>
        rw [hr] at ih
        intro x hx
        rcases List.mem_cons.1 hx with rfl | hx
        · have := ih y (by simp)
          simp only [List.length_cons]; omega
        · have := ih x (by simp [hx])
          simp only [List.length_cons]; omega
theorem split_count (a : UInt8) (s : List UInt8) : (Lib.split s [a]).length ≤ s.length + 1 := by
  induction s with
  | nil => rw [split_nil]; simp
  | cons b r ih =>
    by_cases h : b = a
    · subst h
      rw [split_sep]; simp only [List.length_cons]; omega
    · rw [split_other a b r h]
      cases hr : Lib.split r [a] with
      | nil => exact absurd hr (split_ne a r)
      | cons y ys =>
        rw [hr] at ih
        simp only [List.length_cons] at ih ⊢; omega
/- What strings.Split leaves, as texts. -/
theorem split_cells (X : ByteArray) (r : List UInt8) (h : X.data.toList = r) :
    Lib.countB X ⟨#[47]⟩ + 1 = (Lib.split r [47]).length ∧ (Lib.splitB ⟨#[47]⟩ 0 (Lib.countB X ⟨#[47]⟩) X).map Value.string = (Lib.split r [47]).map str := by
  have h1 := Lib.splitB_all ⟨#[47]⟩ (by decide) 0 _ X rfl
  have h2 := Lib.splitB_data ⟨#[47]⟩ 0 (Lib.countB X ⟨#[47]⟩) X
  have e : Lib.splitK ([47] : List UInt8) 0 (Lib.countB X ⟨#[47]⟩) X.data.toList = Lib.split r [47] := by
    subst h; rfl
  have h3 : (Lib.splitB ⟨#[47]⟩ 0 (Lib.countB X ⟨#[47]⟩) X).map (fun x => x.data.toList) = Lib.split r [47] := h2.trans e
  refine ⟨?_, ?_⟩
  · rw [← h3, List.length_map, h1]
  · rw [← h3, List.map_map]
    apply List.map_congr_left
    intro x _
    simp only [Function.comp, str]

def midN (ns : List (List UInt8)) (k : Nat) : List (List UInt8) := (ns.take k).map unmarkedL ++ ns.drop k
theorem mid_at {ns : List (List UInt8)} {k : Nat} (h : k < ns.length) : (midN ns k)[k]? = some ns[k] := by
  unfold midN
  rw [List.getElem?_append_right (by simp; omega)]
  have : k - ((ns.take k).map unmarkedL).length = 0 := by simp; omega
  rw [this, List.getElem?_drop, Nat.add_zero, List.getElem?_eq_getElem h]
theorem mid_set {ns : List (List UInt8)} {k : Nat} (h : k < ns.length) : (midN ns k).set k (unmarkedL ns[k]) = midN ns (k + 1) := by
  unfold midN
  have hl : ((ns.take k).map unmarkedL).length = k := by simp; omega
  rw [List.set_append_right _ _ (by omega), hl, Nat.sub_self, List.drop_eq_getElem_cons h, List.set_cons_zero, List.take_add_one, List.getElem?_eq_getElem h]
  simp only [List.map_append, Option.toList_some, List.map_cons, List.map_nil, List.append_assoc, List.cons_append, List.nil_append]
theorem mid_len (ns : List (List UInt8)) (k : Nat) (h : k ≤ ns.length) : (midN ns k).length = ns.length := by
  unfold midN; simp; omega
theorem strs_cell {w : World} {g : Nat} {l : List (List UInt8)} (h : w.heap[g]? = some (.cells (l.map str).toArray 9)) {k : Nat} {x : List UInt8} (hk : l[k]? = some x) : w.cell? ⟨g, k, none⟩ = some (.string ⟨x.toArray⟩) ∧ w.frozen? ⟨g, k, none⟩ = false := by
  constructor
  · simp [World.cell?, h, hk, str]
  · simp [World.frozen?, h]

set_option maxRecDepth 100000 in
set_option maxHeartbeats 4000000 in
theorem split_at_ok (w : World) (c : UInt8) (r : List UInt8) (hc : c = 47) (hp : r.length + 1 ≤ 2000) (hw : wholeP (c :: r) = true) (hM : GlobM w) :
    Calls Tryd.prog 23 #[str (c :: r)] w fun e w' => ∃ (a : Option Addr) (cap : Nat), e = .returned (.tuple #[.slice a ((Lib.split r [47]).map unmarkedL).length cap, .int .i64 0]) ∧
      StrsAre w' (fun k => w.heap.size ≤ k) ((Lib.split r [47]).map unmarkedL) (.slice a ((Lib.split r [47]).map unmarkedL).length cap) ∧ Below w.heap.size w w' := by
  subst hc
  have HM := hidI hM
  clear hM
  have HW := hidI hw
  clear hw
  unfold str
  have hne : (ByteArray.mk (47 :: r).toArray == ByteArray.mk #[]) = false := ba_ne (by simp)
  have hsz : 0 < (ByteArray.mk (47 :: r).toArray).size := by rw [ba_size]; simp
  have hget : (ByteArray.mk (47 :: r).toArray)[0] = 47 := rfl
  have e0 : ¬ (2000 < (r.length : Int) + 1) := by omega
  go_enter Tryd.func23, Tryd.ntmps23
  go_wp2_with fail
  refine (whole_at _ (47 :: r) (by simp; omega)).mono ?_
  rintro e w1 ⟨rfl, hw1⟩
  rw [HW.out, hw1]
  clear hw1
  go_wp2_with fail
  obtain ⟨m, hm⟩ := HM.out
  obtain ⟨X, hX⟩ : ∃ X, (ByteArray.mk (47 :: r).toArray).extract 1 (ByteArray.mk (47 :: r).toArray).size = X := ⟨_, rfl⟩
  have hXd : X.data.toList = r := by
    rw [← hX, Lib.extract_to_end]; simp
  have hXs : X.size = r.length := by rw [Lib.size_eq, hXd]
  have hX2 : (ByteArray.mk (47 :: r).toArray).extract 1 (r.length + 1) = X := by rw [← hX, ba_size]; rfl
  rw [hX2]
  clear hX hX2
  refine (Tryd.strings_Split X ⟨#[47]⟩ m w (by omega) hm (by decide)).mono ?_
  rintro e w2 ⟨rfl, hw2⟩
  obtain ⟨hn, hcells⟩ := split_cells X r hXd
  rw [hn]
  rw [hcells] at hw2
  obtain ⟨ns, hns⟩ : ∃ ns, Lib.split r [47] = ns := ⟨_, rfl⟩
  have NL : Hid (∀ x ∈ ns, x.length ≤ 2000) := hidI (by rw [← hns]; intro x hx; have := split_lens 47 r x hx; omega)
  have nl : ns.length ≤ 2000 := by rw [← hns]; have := split_count 47 r; omega
  rw [hns] at hw2 ⊢
  have HNS := hidI hns
  clear hns hcells hn hXd hXs hm m
  have h2 : w2.heap[w.heap.size]? = some (.cells ((midN ns 0).map str).toArray 9) := by
    rw [hw2]
    have : midN ns 0 = ns := by simp [midN]
    rw [this]; exact heap_alloc_new w _
  have b2 : Below w.heap.size w w2 := by rw [hw2]; exact bel_alloc _ _
  have S2 : Hid (w2.heap[w.heap.size]? = some (.cells ((midN ns 0).map str).toArray 9) ∧ Below w.heap.size w w2) := ⟨h2, b2⟩
  clear h2 b2 hw2
  go_wp2_with fail
  go_loopg [27] ns.length (fun gk i wr => ∃ k : Nat, k ≤ ns.length ∧ gk = ns.length - k ∧ i = .int .i64 k ∧ wr.heap[w.heap.size]? = some (.cells ((midN ns k).map str).toArray 9) ∧ Below w.heap.size w wr)
  case atStart => exact ⟨0, Nat.zero_le _, rfl, rfl, S2.out.1, S2.out.2⟩
  case round =>
    obtain ⟨k, hk, hgk, rfl, hh, hbl⟩ := hrel
    have GK := hidI hgk
    have A : Hid (wr.heap[w.heap.size]? = some (.cells ((midN ns k).map str).toArray 9) ∧ Below w.heap.size w wr) := ⟨hh, hbl⟩
    clear hgk hh hbl
    by_cases hlt : k < ns.length
    · obtain ⟨c1, f1⟩ := strs_cell A.out.1 (mid_at hlt)
      have hnk : ns[k].length ≤ 2000 := NL.out _ (List.getElem_mem _)
      have HM1 := hidI (HM.out.bel A.out.2)
      go_wp2_with fail
      refine (unmarked_at _ ns[k] (by omega) (by exact HM1.out)).mono ?_
      rintro e w3 ⟨rfl, hb3⟩
      have hb3' : w3.heap[w.heap.size]? = some (.cells ((midN ns k).map str).toArray 9) := by
        have hlt2 : w.heap.size < wr.heap.size := (Array.getElem?_eq_some_iff.1 A.out.1).1
        rw [hb3.block _ hlt2]; exact A.out.1
      have B3 : Hid (w3.heap[w.heap.size]? = some (.cells ((midN ns k).map str).toArray 9) ∧ Below w.heap.size w w3) := ⟨hb3', bel_trans A.out.2 hb3⟩
      obtain ⟨c2, f2⟩ := strs_cell B3.out.1 (mid_at hlt)
      clear hb3 hb3' c1 f1
      unfold str
      go_wp2_with fail
      go_roundg (ns.length - (k + 1))
      case measure => rw [GK.out]; omega
      case rel =>
        refine ⟨k + 1, by omega, rfl, by go_num, ?_, ?_⟩
        · have := heap_set B3.out.1 k (.string ⟨(unmarkedL ns[k]).toArray⟩)
          rw [this]
          have e9 : ((midN ns k).map str).toArray.setIfInBounds k (.string ⟨(unmarkedL ns[k]).toArray⟩) = ((midN ns (k + 1)).map str).toArray := by
            rw [← mid_set hlt, List.map_set]
            simp [str]
          rw [e9]
        · exact gb_none (gb_setA (gb_below B3.out.2) (Nat.le_refl _) _ _)
    · have hke : k = ns.length := by omega
      subst hke
      have e3 : midN ns ns.length = ns.map unmarkedL := by simp [midN]
      go_wp2_with fail
      refine bodyPost_ret (v := .tuple #[.slice (some ⟨w.heap.size, 0, none⟩) ns.length ns.length, .int .i64 0]) (by simp [results, Tryd.results23, go_sem] <;> rfl) rfl ?_
      rw [HNS.out]
      refine ⟨some ⟨w.heap.size, 0, none⟩, ns.length, by rw [List.length_map], ⟨by rw [List.length_map]; unfold maxLen; omega, .inr ⟨w.heap.size, 0, ns.length, by rw [List.length_map], by rw [List.length_map]; exact Nat.le_refl _, by unfold maxLen; omega, ?_⟩⟩, A.out.2⟩
      intro i x hx
      have h9 := A.out.1
      rw [e3] at h9
      refine ⟨?_, Nat.le_refl _, ?_⟩
      · simp only [List.getElem?_map, Option.map_eq_some_iff] at hx
        obtain ⟨y, hy, rfl⟩ := hx
        have h1 := NL.out y (List.mem_of_getElem? hy)
        have h2 : (Lib.replaceAll y [126, 49] [47]).length ≤ y.length := repl_len (by simp) (by simp) (by simp) _ y (Nat.le_refl _)
        have h3 : (unmarkedL y).length ≤ (Lib.replaceAll y [126, 49] [47]).length := repl_len (by simp) (by simp) (by simp) _ _ (Nat.le_refl _)
        unfold maxLen; omega
      · have := (strs_cell h9 hx).1
        rw [Nat.zero_add]; exact this

set_option maxRecDepth 100000 in
set_option maxHeartbeats 4000000 in
theorem split_at_bad (w : World) (c : UInt8) (r : List UInt8) (hl : r.length + 1 ≤ 140737488351232) (hb : c ≠ 47 ∨ 2000 < (c :: r).length ∨ wholeP (c :: r) = false) :
    Calls Tryd.prog 23 #[str (c :: r)] w fun e w' => e = .returned (.tuple #[.slice none 0 0, .int .i64 1]) ∧ Below w.heap.size w w' := by
  unfold str
  have hne : (ByteArray.mk (c :: r).toArray == ByteArray.mk #[]) = false := ba_ne (by simp)
  have hsz : 0 < (ByteArray.mk (c :: r).toArray).size := by rw [ba_size]; simp
  have hget : (ByteArray.mk (c :: r).toArray)[0] = c := rfl
  have hbyte : (c.toNat : Int) < 256 := by have := c.toNat_lt; omega
  by_cases hc : c = 47
  · have n1 : ((c.toNat : Int) != 47) = false := by rw [hc]; rfl
    have q1 : ((c.toNat : Int) == 47) = true := by rw [hc]; rfl
    by_cases h2 : 2000 < r.length + 1
    · have e0 : 2000 < (r.length : Int) + 1 := by omega
      clear hc hb
      go_enter Tryd.func23, Tryd.ntmps23
      go_wp2_with fail
      refine bodyPost_ret (v := .tuple #[.slice none 0 0, .int .i64 1]) (by simp [results, Tryd.results23, go_sem] <;> rfl) rfl ?_
      exact ⟨rfl, Below.refl _ _⟩
    · have e0 : ¬ (2000 < (r.length : Int) + 1) := by omega
      have HW : Hid (wholeP (c :: r) = false) := hidI (by
        rcases hb with h | h | h
        · exact absurd hc h
        · simp only [List.length_cons] at h; omega
        · exact h)
      clear hc hb
      go_enter Tryd.func23, Tryd.ntmps23
      go_wp2_with fail
      refine (whole_at _ (c :: r) (by simp; omega)).mono ?_
      rintro e w1 ⟨rfl, hw1⟩
      rw [HW.out, hw1]
      clear hw1
      go_wp2_with fail
      refine bodyPost_ret (v := .tuple #[.slice none 0 0, .int .i64 1]) (by simp [results, Tryd.results23, go_sem] <;> rfl) rfl ?_
      exact ⟨rfl, Below.refl _ _⟩
  · have n1 : ((c.toNat : Int) != 47) = true := by
      have : c.toNat ≠ 47 := fun e => hc (UInt8.toNat_inj.1 e)
      simp only [bne_iff_ne, ne_eq]; omega
    have q1 : ((c.toNat : Int) == 47) = false := by
      have : c.toNat ≠ 47 := fun e => hc (UInt8.toNat_inj.1 e)
      rw [beq_eq_false_iff_ne]; omega
    clear hc hb
    go_enter Tryd.func23, Tryd.ntmps23
    go_wp2_with fail
    refine bodyPost_ret (v := .tuple #[.slice none 0 0, .int .i64 1]) (by simp [results, Tryd.results23, go_sem] <;> rfl) rfl ?_
    exact ⟨rfl, Below.refl _ _⟩

set_option maxRecDepth 100000 in
set_option maxHeartbeats 4000000 in
theorem split_at_nil (w : World) :
    Calls Tryd.prog 23 #[str []] w fun e w' => e = .returned (.tuple #[.slice none 0 0, .int .i64 0]) ∧ Below w.heap.size w w' := by
  unfold str
  have hne : (ByteArray.mk ([] : List UInt8).toArray == ByteArray.mk #[]) = true := ba_eq (by simp)
  go_enter Tryd.func23, Tryd.ntmps23
  go_wp2_with fail
  refine bodyPost_ret (v := .tuple #[.slice none 0 0, .int .i64 0]) (by simp [results, Tryd.results23, go_sem] <;> rfl) rfl ?_
  exact ⟨rfl, Below.refl _ _⟩

theorem split_all (w : World) (p : List UInt8) (hp : p.length ≤ 140737488351232) (hM : GlobM w) :
    Calls Tryd.prog 23 #[str p] w fun e w' => ∃ (b : List (List UInt8)) (ee : Int) (a : Option Addr) (cap : Nat), e = .returned (.tuple #[.slice a b.length cap, .int .i64 ee]) ∧ splitP p = (b, ee) ∧
      StrsAre w' (fun k => w.heap.size ≤ k) b (.slice a b.length cap) ∧ Below w.heap.size w w' := by
  cases p with
  | nil =>
    refine (split_at_nil w).mono ?_
    rintro e w' ⟨rfl, hb⟩
    exact ⟨[], 0, none, 0, rfl, rfl, ⟨by simp [maxLen], .inl ⟨rfl, none, rfl⟩⟩, hb⟩
  | cons c r =>
    by_cases h : c ≠ 47 ∨ 2000 < (c :: r).length ∨ wholeP (c :: r) = false
    · refine (split_at_bad w c r (by simpa using hp) h).mono ?_
      rintro e w' ⟨rfl, hb⟩
      refine ⟨[], 1, none, 0, rfl, ?_, ⟨by simp [maxLen], .inl ⟨rfl, none, rfl⟩⟩, hb⟩
      simp only [splitP]; rw [if_pos h]
    · have h' := h
      simp only [not_or, Decidable.not_not, Bool.not_eq_false] at h'
      refine (split_at_ok w c r h'.1 (by have := h'.2.1; simp only [List.length_cons] at this; omega) h'.2.2 hM).mono ?_
      rintro e w' ⟨a, cap, rfl, hs, hb⟩
      refine ⟨_, 0, a, cap, rfl, ?_, hs, hb⟩
      simp only [splitP]; rw [if_neg h]
theorem strs_cells {w : World} {ok : Nat → Prop} {xs : List (List UInt8)} {a : Option Addr} {n c k : Nat} (h : StrsAre w ok xs (.slice a n c)) (hk : k < xs.length) : ∃ b off, a = some ⟨b, off, none⟩ ∧ xs.length ≤ c ∧ c ≤ maxLen ∧ w.cell? ⟨b, off + k, none⟩ = some (.string ⟨xs[k].toArray⟩) := by
  rcases h.2 with ⟨e, _⟩ | ⟨b, off, c', e, h1, h2, hcs⟩
  · rw [e] at hk; simp at hk
  · simp only [Value.slice.injEq] at e
    obtain ⟨rfl, -, rfl⟩ := e
    exact ⟨b, off, rfl, h1, h2, (hcs k xs[k] (List.getElem?_eq_getElem hk)).2.2⟩
end Go.Proofs.YtaifciobaapehaaDoor

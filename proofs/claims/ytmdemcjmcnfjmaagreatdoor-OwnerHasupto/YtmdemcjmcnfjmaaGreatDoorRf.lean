/- What number of json's reader does. -/
import Derived.Test.YtmdemcjmcnfjmaaGreatDoorVa
import Derived.Test.YtmdemcjmcnfjmaaGreatDoorRe
import Derived.Lib.AtoiErrMem
import Derived.Lib.ItoaLen
import Derived.Shelf.Strconv.ErrVarAll
set_option linter.unusedSimpArgs false
set_option linter.unusedVariables false
namespace Go.Proofs.YtmdemcjmcnfjmaaGreatDoor
open Go.RowKit Go.Shelf

/- The package-level variables of the library's, as its text lays them. -/
def Glob (w : World) : Prop :=
  (∃ tp p t f, w.heap[3]? = some (.cells #[.iface tp p] t f)) ∧ (∃ tp p t f, w.heap[4]? = some (.cells #[.iface tp p] t f)) ∧
  ∃ t f, w.heap[5]? = some (.cells (Lib.pow10Tab.map fun z => Value.int .u64 z).toArray t f)

theorem Glob.grown {w w' : World} {r : Option Nat} (h : Glob w) (hg : w.grownBy w' r) (hr : ∀ k, r = some k → 6 ≤ k) : Glob w' := by
  obtain ⟨⟨tp, p, t, f, h1⟩, ⟨tq, q, t2, f2, h2⟩, ⟨t3, f3, h3⟩⟩ := h
  have lt : ∀ k o, w.heap[k]? = some o → k < w.heap.size := fun k o e => (Array.getElem?_eq_some_iff.1 e).1
  refine ⟨⟨tp, p, t, f, (hg.block _ (lt _ _ h1) ?_).trans h1⟩, ⟨tq, q, t2, f2, (hg.block _ (lt _ _ h2) ?_).trans h2⟩, ⟨t3, f3, (hg.block _ (lt _ _ h3) ?_).trans h3⟩⟩ <;>
  · intro e
    have := hr _ e.symm
    omega
theorem Glob.size {w : World} (h : Glob w) : 6 ≤ w.heap.size := by
  obtain ⟨⟨tp, p, t, f, h1⟩, ⟨tq, q, t2, f2, h2⟩, ⟨t3, f3, h3⟩⟩ := h
  have lt : ∀ k o, w.heap[k]? = some o → k < w.heap.size := fun k o e => (Array.getElem?_eq_some_iff.1 e).1
  have := lt _ _ h1
  have := lt _ _ h2
  have := lt _ _ h3
  omega
theorem Glob.same {w w' : World} (h : Glob w) (e : w'.heap = w.heap) : Glob w' := by
  unfold Glob at h ⊢
  rw [e]; exact h

theorem atoi_ok (s : ByteArray) (hs : s.size ≤ 2000) (v : Int) (h : Lib.atoiAll s.data.toList = .ok v) (w : World) :
    Calls Tryz.prog 135 #[.string s] w fun e w' => e = .returned (.tuple #[.int .i64 v, .nilIface]) ∧ Below w.heap.size w w' := by
  refine (Any.strconv_Atoi_ok Tryz.laysC172 s (by omega) v h w).mono ?_
  rintro e w' ⟨rfl, rfl | ⟨t, rfl⟩⟩
  · exact ⟨rfl, Below.refl _ _⟩
  · exact ⟨rfl, Lib.bytesWorld_below w _ t⟩
theorem atoi_no (s : ByteArray) (hs : s.size ≤ 2000) (h : ∀ v, Lib.atoiAll s.data.toList ≠ .ok v) (w : World) (hG : Glob w) :
    Calls Tryz.prog 135 #[.string s] w fun e w' => ∃ v N T, e = .returned (.tuple #[.int .i64 v, .iface T (.pointer (some ⟨N, 0, none⟩))]) ∧ Below w.heap.size w w' := by
  obtain ⟨⟨tp, p, t, f, h1⟩, ⟨tq, q, t2, f2, h2⟩, _⟩ := hG
  rcases h9 : Lib.atoiAll s.data.toList with v | _ | _
  · exact absurd h9 (h v)
  · refine (Any.strconv_Atoi_syntax_var Tryz.laysC172 s (by omega) h9 tp p w ?_).mono ?_
    · unfold World.var?
      rw [show Program.globalNamed Tryz.prog _ = some 3 from by kernel_rfl]
      simp [h1]
    · rintro e w' ⟨N, rfl, -, -, hb⟩
      exact ⟨0, N, _, rfl, hb⟩
  · refine (Any.strconv_Atoi_range_var Tryz.laysC172 s (by omega) h9 tq q w ?_).mono ?_
    · unfold World.var?
      rw [show Program.globalNamed Tryz.prog _ = some 4 from by kernel_rfl]
      simp [h2]
    · rintro e w' ⟨N, rfl, -, -, hb⟩
      exact ⟨_, N, _, rfl, hb⟩
theorem grow_below (w : World) (os : Array Obj) : Below w.heap.size w (Sort.grow w os) :=
  ⟨rfl, rfl, rfl, by simp [Sort.grow], fun k hk => by simp [Sort.grow, Array.getElem?_append, hk]⟩
theorem itoa_at (n : Int) (h0 : I64 n) (w : World) (hG : Glob w) :
    Calls Tryz.prog 136 #[.int .i64 n] w fun e w' => e = .returned (.string ⟨(Lib.itoa n).toArray⟩) ∧ Below w.heap.size w w' := by
  obtain ⟨_, _, t3, f3, h3⟩ := hG
  refine (Any.strconv_Itoa Tryz.laysM171 n h0.1 h0.2 w ?_).mono ?_
  · unfold Lib.TabIs World.var?
    rw [show Program.globalNamed Tryz.prog _ = some 5 from by kernel_rfl]
    simp [h3]
  · rintro e w' ⟨rfl, k, os, rfl⟩
    have h : Below w.heap.size w (w.drewN k) := ⟨rfl, rfl, rfl, Nat.le_refl _, fun _ _ => rfl⟩
    exact ⟨rfl, h.trans (grow_below (w.drewN k) os)⟩

def isNum (c : UInt8) : Bool := c == 45 || (decide (48 ≤ c.toNat) && decide (c.toNat ≤ 57))
def numS (l : List UInt8) : Option (Int × List UInt8) :=
  match Lib.atoiAll (l.takeWhile isNum) with
  | .ok v => if Lib.itoa v = l.takeWhile isNum then some (v, l.dropWhile isNum) else none
  | _ => none
def leafV (k n : Int) (s : List UInt8) : V := ⟨k, n, s, [], []⟩
theorem leaf_is (w : World) (ok : Nat → Prop) (d : Nat) (k n : Int) (s : List UInt8) (hk : I64 k) (hn : I64 n) (hs : s.length ≤ maxLen) : VIs w ok (d + 1) (leafV k n s) (leaf k n s) :=
  ⟨_, _, rfl, hk, hn, hs, ⟨by simp [leafV], .inl ⟨rfl, none, rfl⟩⟩, ⟨by simp [leafV], .inl ⟨rfl, none, rfl⟩⟩⟩

theorem numS_ok {l : List UInt8} {v : Int} (h : Lib.atoiAll (l.takeWhile isNum) = .ok v) (h2 : Lib.itoa v = l.takeWhile isNum) : numS l = some (v, l.dropWhile isNum) := by
  simp [numS, h, h2]
theorem numS_ne {l : List UInt8} {v : Int} (h : Lib.atoiAll (l.takeWhile isNum) = .ok v) (h2 : Lib.itoa v ≠ l.takeWhile isNum) : numS l = none := by
  simp [numS, h, h2]
theorem numS_no {l : List UInt8} (h : ∀ v, Lib.atoiAll (l.takeWhile isNum) ≠ .ok v) : numS l = none := by
  unfold numS
  split
  · rename_i v e; exact absurd e (h v)
  · rfl
theorem atoi_nil (v : Int) : Lib.atoiAll [] ≠ .ok v := by intro h; cases h
theorem isNum_no {l : List UInt8} (h : isNum (hd0 l) = false) : l.dropWhile isNum = l := by
  cases l with
  | nil => rfl
  | cons c l => rw [List.dropWhile_cons, if_neg (by simpa [hd0] using h)]
theorem isNum_yes {l : List UInt8} (h : isNum (hd0 l) = true) : ∃ c r, l = c :: r ∧ isNum c = true := by
  cases l with
  | nil => simp [hd0, isNum] at h
  | cons c l => exact ⟨c, l, rfl, by simpa [hd0] using h⟩

/- Block g holds a value, spread over its five cells. -/
def IsLeaf (t : V) (v : Value) : Prop := ∃ k n, t = leafV k n [] ∧ v = leaf k n [] ∧ I64 k ∧ I64 n

def zcells : Obj := .cells #[.int .i64 0, .int .i64 0, .string ⟨#[]⟩, .slice none 0 0, .slice none 0 0] 25
/- What holds ahead of each digit. -/
def NumI (w : World) (b : Nat) (s : ByteArray) (l : List UInt8) (bad : Bool) (i0 : Nat) (k : Nat) (c : Value) (wr : World) (j : Nat) : Prop :=
  ∃ l1, c = .int .u8 (hd0 l1).toNat ∧ k = l1.length ∧ RdIs wr b s (i0 + j) bad ∧ s.data.toList.drop (i0 + j) = l1 ∧ l.takeWhile isNum = l.take j ++ l1.takeWhile isNum ∧ l1.dropWhile isNum = l.dropWhile isNum ∧ (w.alloc zcells).grownBy wr (some b)

set_option maxRecDepth 100000 in
set_option maxHeartbeats 1000000 in
theorem number_st (w : World) (b : Nat) (s : ByteArray) (st : Option (List UInt8)) (h : RdSt w b s st) (hG : Glob w) (hb4 : 6 ≤ b) :
    Calls Tryz.prog 97 #[.pointer (some ⟨b, 0, none⟩)] w fun e w' => ∃ (t : V) (v : Value) (st' : Option (List UInt8)), e = .returned v ∧ IsLeaf t v ∧
      (st.bind numS).map (fun p => (leafV 2 p.1 [], p.2)) = st'.map (fun l => (t, l)) ∧ RdSt w' b s st' ∧ w.grownBy w' (some b) := by
  have H := hidI h
  have hbl := h.lt
  obtain ⟨i0, h1, e1⟩ := h
  obtain ⟨c0, c1, c2, f1, f2⟩ := h1.c
  have E1 := hidI e1
  have hi0 := h1.2.1
  have hs0 := h1.2.2
  have R0 := hidI h1
  have HG := hidI hG
  clear h1 e1 hG
  have hne : b ≠ w.heap.size := by omega
  go_enter Tryz.func97, Tryz.ntmps97
  go_wp2_with fail
  refine (ahead_at _ b s (st.getD []) st.isNone (by exact H.out.grown (World.grownBy_alloc w _ none) (by simp))).mono ?_
  rintro e w1 ⟨rfl, n1, rfl⟩
  go_wp2_with fail
  go_loopg [4] (st.getD []).length (fun k c wr => ∃ j, NumI w b s (st.getD []) st.isNone i0 k c wr j)
  case atStart =>
    refine ⟨0, st.getD [], rfl, rfl, ?_, E1.out, rfl, rfl, gb_drewN (gb_refl _ _) _⟩
    exact ⟨(World.grownBy_alloc w _ none).block b hbl (by simp) |>.trans (by exact R0.out.1), R0.out.2⟩
  case round =>
    obtain ⟨j, l1, rfl, hk, h2, e2, ht, hd, hg⟩ := hrel
    have A : Hid (gk = l1.length ∧ RdIs wr b s (i0 + j) st.isNone ∧ s.data.toList.drop (i0 + j) = l1 ∧ (st.getD []).takeWhile isNum = (st.getD []).take j ++ l1.takeWhile isNum ∧ l1.dropWhile isNum = (st.getD []).dropWhile isNum ∧ (w.alloc zcells).grownBy wr (some b)) := ⟨hk, h2, e2, ht, hd, hg⟩
    obtain ⟨c0, c1, c2, f1, f2⟩ := h2.c
    have hj := h2.2.1
    clear hk h2 e2 ht hd hg
    cases hn : isNum (hd0 l1) with
    | true =>
      obtain ⟨c, r, rfl, hc⟩ := isNum_yes hn
      clear hn
      have hc' : c.toNat = 45 ∨ 48 ≤ c.toNat ∧ c.toNat ≤ 57 := by
        simp only [isNum, Bool.or_eq_true, beq_iff_eq, Bool.and_eq_true, decide_eq_true_eq] at hc
        rcases hc with rfl | h
        · left; rfl
        · right; exact h
      have hlt : i0 + j < s.size := by
        have := congrArg List.length A.out.2.2.1
        rw [List.length_drop, Array.length_toList] at this
        have e : s.data.size = s.size := rfl
        simp only [List.length_cons] at this
        omega
      have step : Hid (∀ wr' nn, wr' = (wr.setCell ⟨b, 1, none⟩ (.int .i64 ((i0 : Int) + j + 1))) → NumI w b s (st.getD []) st.isNone i0 r.length (.int .u8 (hd0 r).toNat) (wr'.drewN nn) (j + 1)) := by
        rintro wr' nn rfl
        obtain ⟨hk, h2, e2, ht, hd, hg⟩ := A.out
        have e3 : s.data.toList.drop (i0 + j + 1) = r := by
          have := congrArg List.tail e2
          simpa using this
        refine ⟨r, rfl, rfl, ⟨?_, by omega, h2.2.2⟩, e3, ?_, ?_, gb_drewN (gb_set hg _ _) _⟩
        · have e9 : ((i0 : Int) + j + 1) = ((i0 + (j + 1) : Nat) : Int) := by omega
          rw [e9]; exact heap_set h2.1 1 _
        · rw [ht, List.takeWhile_cons, if_pos hc]
          have e8 : (st.getD []).drop j = c :: r := by rw [← E1.out, List.drop_drop]; exact e2
          rw [List.take_add_one, List.append_assoc]
          congr 1
          have e7 : (st.getD [])[j]? = some c := by
            have := congrArg (fun l => l[0]?) e8
            simpa using this
          rw [e7]; rfl
        · rw [← hd, List.dropWhile_cons, if_pos hc]
      have nxt : Hid (RdAt (wr.setCell ⟨b, 1, none⟩ (.int .i64 ((i0 : Int) + j + 1))) b s r st.isNone) := by
        obtain ⟨r', e5, e6, h3, h4, -⟩ := step.out _ 0 rfl
        have e7 : s.data.toList.drop (i0 + j + 1) = r := by
          have := congrArg List.tail A.out.2.2.1
          simpa using this
        exact ⟨i0 + (j + 1), ⟨h3.1, h3.2⟩, e7⟩
      rcases hc' with hq | ⟨hq1, hq2⟩
      · have q1 : (((hd0 (c :: r)).toNat : Int) == 45) = true := by simp [hd0, hq]
        go_wp2_with fail
        refine (ahead_at _ b s r st.isNone (by exact nxt.out)).mono ?_
        rintro e w1 ⟨rfl, n1, rfl⟩
        go_wp2_with fail
        go_roundg r.length
        case measure => rw [A.out.1]; simp
        case rel => exact ⟨j + 1, step.out _ n1 rfl⟩
      · have q1 : (((hd0 (c :: r)).toNat : Int) == 45) = false := by rw [beq_eq_false_iff_ne]; simp only [hd0, List.headD_cons]; omega
        have q2 : 48 ≤ ((hd0 (c :: r)).toNat : Int) := by simp only [hd0, List.headD_cons]; omega
        have q3 : ((hd0 (c :: r)).toNat : Int) ≤ 57 := by simp only [hd0, List.headD_cons]; omega
        go_wp2_with fail
        refine (ahead_at _ b s r st.isNone (by exact nxt.out)).mono ?_
        rintro e w1 ⟨rfl, n1, rfl⟩
        go_wp2_with fail
        go_roundg r.length
        case measure => rw [A.out.1]; simp
        case rel => exact ⟨j + 1, step.out _ n1 rfl⟩
    | false =>
      have hn' : ¬ (((hd0 l1).toNat : Int) = 45) := by
        intro e
        have : hd0 l1 = 45 := UInt8.toNat_inj.1 (by simpa using Int.ofNat.inj e)
        rw [this] at hn; exact absurd hn (by decide)
      have hn1 : (((hd0 l1).toNat : Int) == 45) = false := by rw [beq_eq_false_iff_ne]; exact hn'
      have hsplit : (48 ≤ ((hd0 l1).toNat : Int)) ∧ ¬ (((hd0 l1).toNat : Int) ≤ 57) ∨ ¬ (48 ≤ ((hd0 l1).toNat : Int)) := by
        by_cases g1 : 48 ≤ ((hd0 l1).toNat : Int)
        · left
          refine ⟨g1, fun g2 => ?_⟩
          have : isNum (hd0 l1) = true := by
            simp only [isNum, Bool.or_eq_true, beq_iff_eq, Bool.and_eq_true, decide_eq_true_eq]
            right; omega
          rw [this] at hn; cases hn
        · right; exact g1
      have b1 : (i0 : Int) ≤ ((i0 + j : Nat) : Int) := by omega
      have b2 : ((i0 + j : Nat) : Int) ≤ (s.size : Int) := by omega
      have hx : Hid ((s.extract i0 (i0 + j)).data.toList = (st.getD []).takeWhile isNum) := by
        obtain ⟨hk, h2, e2, ht, hd, hg⟩ := A.out
        have hz : l1.takeWhile isNum = [] := by
          cases l1 with
          | nil => rfl
          | cons x r => rw [List.takeWhile_cons, if_neg (by simpa [hd0] using hn)]
        rw [ht, hz, List.append_nil, ← E1.out]
        have := ByteArray.extract_mk s.data.toList i0 (i0 + j)
        have e9 : (ByteArray.mk s.data.toList.toArray) = s := by cases s; simp
        rw [e9] at this
        rw [this, Nat.add_sub_cancel_left]; exact List.toList_toArray
      have hxl : (s.extract i0 (i0 + j)).size ≤ 2000 := by rw [ByteArray.size_extract]; omega
      have hend : Hid (RdAt wr b s ((st.getD []).dropWhile isNum) st.isNone) := by
        obtain ⟨hk, h2, e2, ht, hd, hg⟩ := A.out
        exact ⟨i0 + j, h2, by rw [e2, ← hd, isNum_no hn]⟩
      have HN := hidI hn
      clear hn hn'
      generalize hX : s.extract i0 (i0 + j) = X at hx hxl
      have HX := hidI hX
      have hgw : Hid ((w.alloc zcells).grownBy wr (some b)) := A.out.2.2.2.2.2
      have hbx : Hid (BoxIs wr w.heap.size (.int .i64 0) (.int .i64 0) (.string ⟨#[]⟩) (.slice none 0 0) (.slice none 0 0)) := BoxIs.grown (w := w.alloc zcells) (heap_alloc_new w _) hgw.out (by simp; omega)
      have hG1 : Hid (Glob wr) := (HG.out.grown (World.grownBy_alloc w zcells none) (by simp)).grown hgw.out (by intro k hk; cases hk; exact hb4)
      rcases hv : Lib.atoiAll X.data.toList with v | _ | _
      · have hvb : I64 v := Lib.atoiAll_bounds hv
        have HV := hidI hv
        clear hv
        rcases hsplit with ⟨d1, d2⟩ | d1
        all_goals
          go_wp2_with fail
          go_quiet (fail)
          rw [hX]
          go_wp2_with fail
          refine (atoi_ok X hxl v HV.out _).mono ?_
          rintro e w2 ⟨rfl, hb2⟩
          have B2 := hidI hb2
          clear hb2
          go_wp2_with fail
          refine (itoa_at v hvb _ (by exact (hG1.out.same (w' := wr.drewN _) rfl).grown (gb_below (r := none) B2.out) (by simp))).mono ?_
          rintro e w3 ⟨rfl, hb3⟩
          have B3 := hidI hb3
          clear hb3
          have hg3 : Hid (wr.grownBy w3 none) := gb_trans (gb_trans (gb_drewN (gb_refl wr none) _) (gb_below B2.out)) (gb_below B3.out)
          have hbx3 : Hid (BoxIs w3 w.heap.size (.int .i64 0) (.int .i64 0) (.string ⟨#[]⟩) (.slice none 0 0) (.slice none 0 0)) := hbx.out.grown hg3.out (by simp)
          obtain ⟨x0, x1, x2, x3, x4, y0, y1, y2, y3, y4⟩ := hbx3.out.c
          by_cases heq : Lib.itoa v = X.data.toList
          · have hq : (Lib.itoa v == X.toList) = true := by rw [ByteArray.toList_eq, beq_iff_eq]; exact heq
            have hB := hbx3.out.set (.int .i64 2) (.int .i64 v) (str []) (.slice none 0 0) (.slice none 0 0)
            obtain ⟨z0, z1, z2, z3, z4, -⟩ := hB.c
            have Z : Hid (_ ∧ _ ∧ _ ∧ _ ∧ _) := ⟨z0, z1, z2, z3, z4⟩
            clear z0 z1 z2 z3 z4 hB
            go_wp2_with fail
            obtain ⟨z0, z1, z2, z3, z4⟩ := Z.out
            refine bodyPost_ret (v := leaf 2 v []) ?_ rfl ?_
            · simp only [set5, str] at z0 z1 z2 z3 z4
              simp [results, Tryz.results97, go_sem, z0, z1, z2, z3, z4, leaf, str]
            · refine ⟨leafV 2 v [], leaf 2 v [], st.map (List.dropWhile isNum), rfl, ⟨_, _, rfl, rfl, (by unfold I64; omega), hvb⟩, ?_, ?_, ?_⟩
              · match st, hx, hend with
                | none, hx, _ => rw [hx.out] at HV; exact absurd HV.out (atoi_nil v)
                | some l, hx, _ =>
                  have hx' : X.data.toList = l.takeWhile isNum := hx.out
                  exact congrArg _ (numS_ok (by rw [← hx']; exact HV.out) (by rw [← hx']; exact heq))
              · have e1 : (st.map (List.dropWhile isNum)).getD [] = (st.getD []).dropWhile isNum := by cases st <;> rfl
                have e2 : (st.map (List.dropWhile isNum)).isNone = st.isNone := by cases st <;> rfl
                unfold RdSt
                rw [e1, e2]
                refine hend.out.of_heap (((set5_gb w3 w.heap.size _ _ _ _ _).block b ?_ (by simp; omega)).trans (hg3.out.block b hend.out.lt (by simp)))
                exact Nat.lt_of_lt_of_le hend.out.lt hg3.out.size
              · exact gb_own (gb_trans (gb_trans (World.grownBy_alloc w zcells _) hgw.out) (gb_own (gb_refl _ _) hg3.out (by simp))) (set5_gb w3 w.heap.size _ _ _ _ _) (by intro k hk; cases hk; exact Nat.le_refl _)
          · have hq : (Lib.itoa v == X.toList) = false := by rw [ByteArray.toList_eq, beq_eq_false_iff_ne]; exact heq
            go_wp2_with fail
            refine (fail_at _ b s _ _ (by exact hend.out.of_heap (hg3.out.block b hend.out.lt (by simp)))).mono ?_
            rintro e w4 ⟨rfl, h4, hg4⟩
            have R4 : Hid (RdAt w4 b s [] true ∧ w3.grownBy w4 (some b)) := ⟨h4, hg4⟩
            clear h4 hg4 x0 x1 x2 x3 x4 y0 y1 y2 y3 y4
            have hb4' := hbx3.out.grown R4.out.2 (by simp; omega)
            obtain ⟨x0, x1, x2, x3, x4, y0, y1, y2, y3, y4⟩ := hb4'.c
            have hB := hb4'.set (.int .i64 0) (.int .i64 0) (str []) (.slice none 0 0) (.slice none 0 0)
            obtain ⟨z0, z1, z2, z3, z4, -⟩ := hB.c
            have Z : Hid (_ ∧ _ ∧ _ ∧ _ ∧ _) := ⟨z0, z1, z2, z3, z4⟩
            clear z0 z1 z2 z3 z4 hB hb4'
            go_wp2_with fail
            obtain ⟨z0, z1, z2, z3, z4⟩ := Z.out
            refine bodyPost_ret (v := leaf 0 0 []) ?_ rfl ?_
            · simp only [set5, str] at z0 z1 z2 z3 z4
              simp [results, Tryz.results97, go_sem, z0, z1, z2, z3, z4, leaf, str]
            · refine ⟨leafV 0 0 [], leaf 0 0 [], none, rfl, ⟨_, _, rfl, rfl, (by unfold I64; omega), (by unfold I64; omega)⟩, ?_, ?_, ?_⟩
              · cases st with
                | none => rfl
                | some l =>
                  have hx' : X.data.toList = l.takeWhile isNum := hx.out
                  exact congrArg _ (numS_ne (v := v) (by rw [← hx']; exact HV.out) (by rw [← hx']; exact heq))
              · exact R4.out.1.of_heap ((set5_gb w4 w.heap.size _ _ _ _ _).block b R4.out.1.lt (by simp; omega))
              · exact gb_own (gb_trans (gb_trans (gb_trans (World.grownBy_alloc w zcells _) hgw.out) (gb_own (gb_refl _ _) hg3.out (by simp))) R4.out.2) (set5_gb w4 w.heap.size _ _ _ _ _) (by intro k hk; cases hk; exact Nat.le_refl _)
      all_goals
        have hno : ∀ v, Lib.atoiAll X.data.toList ≠ .ok v := by intro v e; rw [hv] at e; cases e
        have HV := hidI hno
        clear hv hno
        rcases hsplit with ⟨d1, d2⟩ | d1
        all_goals
          go_wp2_with fail
          go_quiet (fail)
          rw [hX]
          go_wp2_with fail
          refine (atoi_no X hxl HV.out _ (by exact (hG1.out.same (w' := wr.drewN _) rfl))).mono ?_
          rintro e w3 ⟨v, N, T, rfl, hb2⟩
          have hg3 : Hid (wr.grownBy w3 none) := gb_trans (gb_drewN (gb_refl wr none) _) (gb_below hb2)
          clear hb2
          have hbx3 : Hid (BoxIs w3 w.heap.size (.int .i64 0) (.int .i64 0) (.string ⟨#[]⟩) (.slice none 0 0) (.slice none 0 0)) := hbx.out.grown hg3.out (by simp)
          go_wp2_with fail
          refine (fail_at _ b s _ _ (by exact hend.out.of_heap (hg3.out.block b hend.out.lt (by simp)))).mono ?_
          rintro e w4 ⟨rfl, h4, hg4⟩
          have R4 : Hid (RdAt w4 b s [] true ∧ w3.grownBy w4 (some b)) := ⟨h4, hg4⟩
          clear h4 hg4
          have hb4' := hbx3.out.grown R4.out.2 (by simp; omega)
          obtain ⟨x0, x1, x2, x3, x4, y0, y1, y2, y3, y4⟩ := hb4'.c
          have hB := hb4'.set (.int .i64 0) (.int .i64 0) (str []) (.slice none 0 0) (.slice none 0 0)
          obtain ⟨z0, z1, z2, z3, z4, -⟩ := hB.c
          have Z : Hid (_ ∧ _ ∧ _ ∧ _ ∧ _) := ⟨z0, z1, z2, z3, z4⟩
          clear z0 z1 z2 z3 z4 hB hb4'
          go_wp2_with fail
          obtain ⟨z0, z1, z2, z3, z4⟩ := Z.out
          refine bodyPost_ret (v := leaf 0 0 []) ?_ rfl ?_
          · simp only [set5, str] at z0 z1 z2 z3 z4
            simp [results, Tryz.results97, go_sem, z0, z1, z2, z3, z4, leaf, str]
          · refine ⟨leafV 0 0 [], leaf 0 0 [], none, rfl, ⟨_, _, rfl, rfl, (by unfold I64; omega), (by unfold I64; omega)⟩, ?_, ?_, ?_⟩
            · cases st with
              | none => rfl
              | some l =>
                have hx' : X.data.toList = l.takeWhile isNum := hx.out
                exact congrArg _ (numS_no (by intro v; rw [← hx']; exact HV.out v))
            · exact R4.out.1.of_heap ((set5_gb w4 w.heap.size _ _ _ _ _).block b R4.out.1.lt (by simp; omega))
            · exact gb_own (gb_trans (gb_trans (gb_trans (World.grownBy_alloc w zcells _) hgw.out) (gb_own (gb_refl _ _) hg3.out (by simp))) R4.out.2) (set5_gb w4 w.heap.size _ _ _ _ _) (by intro k hk; cases hk; exact Nat.le_refl _)
end Go.Proofs.YtmdemcjmcnfjmaaGreatDoor

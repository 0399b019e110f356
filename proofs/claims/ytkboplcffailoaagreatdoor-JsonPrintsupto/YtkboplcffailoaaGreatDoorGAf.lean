/- What PrintValue and CountOf of package stairwellref do, and Print, so told. -/
import Derived.Test.YtkboplcffailoaaGreatDoorFa
import Derived.Test.YtkboplcffailoaaGreatDoorGQf
import Derived.Test.YtkboplcffailoaaGreatDoorWl
import Derived.Test.YtkboplcffailoaaGreatDoorSq
import Derived.Test.YtkboplcffailoaaGreatDoorSk
import Derived.Test.YtkboplcffailoaaGreatDoorGUb
import Derived.Test.YtkboplcffailoaaGreatDoorShj
import Derived.Test.YtkboplcffailoaaGreatDoorFg
/- What quoted of package stairwellref does. -/
set_option linter.unusedSimpArgs false
set_option linter.unusedVariables false
namespace Go.Proofs.YtkboplcffailoaaGreatDoor
open Go.RowKit

theorem cut_one (p : List UInt8) (k : Nat) (c : UInt8) (h : p[k]? = some c) : (ByteArray.mk p.toArray).extract k (k + 1) = ByteArray.mk #[c] := by
  obtain ⟨hk, hc⟩ := List.getElem?_eq_some_iff.1 h
  have e : ((ByteArray.mk p.toArray).extract k (k + 1)).data = #[c] := by
    rw [ByteArray.data_extract]
    apply Array.toList_inj.1
    simp only [Array.toList_extract, List.extract_eq_take_drop, Nat.add_sub_cancel_left]
    rw [List.drop_eq_getElem_cons hk, hc]
    simp
  cases hx : (ByteArray.mk p.toArray).extract k (k + 1) with
  | mk d => rw [hx] at e; simp only at e; rw [e]
theorem cat_two (a b : List UInt8) (B : Array UInt8) (h : B.toList = b) : ByteArray.mk a.toArray ++ ByteArray.mk B = ByteArray.mk (a ++ b).toArray := by
  subst h
  have h : (ByteArray.mk a.toArray ++ ByteArray.mk B).data.toList = a ++ B.toList := by simp [ByteArray.data_append]
  have e : (ByteArray.mk a.toArray ++ ByteArray.mk B).data = (a ++ B.toList).toArray := by rw [← Array.toList_inj, h]
  cases hx : ByteArray.mk a.toArray ++ ByteArray.mk B with
  | mk d => rw [hx] at e; simp only at e; rw [e]
theorem byte_snoc {s : List UInt8} {k : Nat} (h : k < s.length) : 34 :: (s.take (k + 1)).flatMap byteS = (34 :: (s.take k).flatMap byteS) ++ byteS s[k] := by
  rw [List.take_add_one, List.getElem?_eq_getElem h, List.flatMap_append]
  simp
theorem byte_part (s : List UInt8) (k : Nat) (h : s.length ≤ 1000000) : (34 :: (s.take k).flatMap byteS).length ≤ 10000000 := by
  have h1 := flat_len (s.take k)
  have h2 : (s.take k).length ≤ s.length := by simp; omega
  simp only [List.length_cons]
  omega

set_option maxRecDepth 100000 in
set_option maxHeartbeats 8000000 in
theorem rquoted_is (w : World) (s : List UInt8) (hs : s.length ≤ 1000000) (hp : ∀ c ∈ s, c.toNat < 128) :
    Calls Tryz.prog 24 #[str s] w fun e w' => e = .returned (str (quoteS s)) ∧ Below w.heap.size w w' := by
  unfold str
  obtain ⟨cap, W2, hcv, h1, h2, h3, h4⟩ := bytes_of w s (by omega)
  have HC := hidI h3
  have HB : Hid (Below w.heap.size w W2) := hidI (by obtain ⟨os, rfl⟩ := h4; exact bel_grow _ _ _)
  have HP := hidI hp
  clear h3 h4 hp
  go_enter Tryz.func24, Tryz.ntmps24
  go_wp2_with fail
  clear hcv
  go_loopg [3, 10] s.length (fun gk ov i wr => ∃ k : Nat, k ≤ s.length ∧ gk = s.length - k ∧ i = .int .i64 k ∧ ov = .string ⟨(34 :: (s.take k).flatMap byteS).toArray⟩ ∧ Below W2.heap.size W2 wr)
  case atStart => exact ⟨0, Nat.zero_le _, rfl, rfl, rfl, Below.refl _ _⟩
  case round =>
    obtain ⟨k, hk, hgk, rfl, rfl, hbl⟩ := hrel
    have GK := hidI hgk
    have BL := hidI hbl
    clear hgk hbl
    by_cases hlt : k < s.length
    · have c9 := cell_bel BL.out (HC.out k hlt)
      have w1 : (0 : Int) ≤ (k : Int) := by omega
      have w2 : (k : Int) < (s.length : Int) := by omega
      obtain ⟨u, hu⟩ : ∃ u, 34 :: (s.take k).flatMap byteS = u := ⟨_, rfl⟩
      have hul : u.length ≤ 10000000 := by rw [← hu]; exact byte_part s k hs
      have HU : Hid (∀ y, byteS s[k] = y → 34 :: (s.take (k + 1)).flatMap byteS = u ++ y) := hidI (by intro y hy; rw [byte_snoc hlt, hy, hu])
      rw [hu]
      clear hu
      have hc128 : s[k].toNat < 128 := HP.out _ (List.getElem_mem hlt)
      obtain ⟨c, hcc⟩ : ∃ c, s[k] = c := ⟨_, rfl⟩
      rw [hcc] at c9 HU hc128
      clear hcc
      have hc : ((c.toNat : Int).toNat).toUInt8 = c := by simp
      by_cases hm : c ∈ markedL
      · obtain ⟨i, hi, e1, d, hd, e2⟩ := byteS_marked c hm
        have e1' : Lib.indexByte (ByteArray.mk #[34, 92, 8, 12, 10, 13, 9]).data.toList ((c.toNat : Int).toNat).toUInt8 = i := by rw [hc]; exact e1
        have hi7 : (i : Int) < 7 := by omega
        have hi8 : (i : Int) + 1 ≤ 7 := by omega
        have hi9 : (i : Int) ≤ (i : Int) + 1 := by omega
        have hi0 : (0 : Int) ≤ (i : Int) := by omega
        have hcut : (ByteArray.mk #[34, 92, 98, 102, 110, 114, 116]).extract i (i + 1) = ByteArray.mk #[d] := cut_one [34, 92, 98, 102, 110, 114, 116] i d hd
        have hcat : ByteArray.mk #[92] ++ ByteArray.mk #[d] = ByteArray.mk #[92, d] := cat_two [92] [d] _ rfl
        have FIN : Hid (ByteArray.mk u.toArray ++ ByteArray.mk #[92, d] = ByteArray.mk (34 :: (s.take (k + 1)).flatMap byteS).toArray) := hidI (by rw [HU.out _ e2]; exact cat_two u [92, d] _ rfl)
        clear hd e1 e2 hm hi HU
        go_wp2_with fail
        refine (Tryz.strings_IndexByte _ _ _).mono ?_
        rintro e w1 ⟨rfl, rfl⟩
        rw [e1']
        clear e1'
        go_wp2_with fail
        go_roundg (s.length - (k + 1))
        case measure => rw [GK.out]; omega
        case rel => exact ⟨k + 1, by omega, rfl, by go_num, by rw [FIN.out], BL.out⟩
      · have e1' : Lib.indexByte (ByteArray.mk #[34, 92, 8, 12, 10, 13, 9]).data.toList ((c.toNat : Int).toNat).toUInt8 = -1 := by rw [hc]; exact idx_none c _ hm
        have E2 := hidI (byteS_rest c hm)
        clear hm
        by_cases hpl : 32 ≤ c.toNat ∧ c.toNat < 127
        · have g1 : (32 : Int) ≤ (c.toNat : Int) := by omega
          have g2 : (c.toNat : Int) < 127 := by omega
          have FIN : Hid (ByteArray.mk u.toArray ++ ByteArray.mk #[c] = ByteArray.mk (34 :: (s.take (k + 1)).flatMap byteS).toArray) := hidI (by rw [HU.out _ E2.out, if_neg (by omega)]; exact cat_two u [c] _ rfl)
          have kc : (convert 34 9 (.slice (some ⟨wr.heap.size, 0, none⟩) 1 1)).run Tryz.prog (wr.alloc (.cells #[.int .u8 (c.toNat : Int)] 5)) = .ok (.string ⟨#[c]⟩) (wr.alloc (.cells #[.int .u8 (c.toNat : Int)] 5)) := by
            have h := run_convert_bytes_back (P := Tryz.prog) (wr.alloc (.cells #[.int .u8 (c.toNat : Int)] 5)) 34 9 5 ⟨wr.heap.size, 0, none⟩ 1 [c] Tryz.underlying34 Tryz.underlying5 Tryz.underlying9 (by
              intro j hj
              have hj0 : j = 0 := by simp at hj; omega
              subst hj0
              exact World.cell?_alloc_at _ _ _ _ rfl)
            exact h
          clear hpl hc HU E2
          go_wp2_with fail
          refine (Tryz.strings_IndexByte _ _ _).mono ?_
          rintro e w1 ⟨rfl, rfl⟩
          rw [e1']
          clear e1'
          go_wp2_with fail
          go_roundg (s.length - (k + 1))
          case measure => rw [GK.out]; omega
          case rel => exact ⟨k + 1, by omega, rfl, by go_num, by rw [FIN.out], bel_trans BL.out (bel_alloc _ _)⟩
        · obtain ⟨q, hq⟩ : ∃ q, q = c.toNat / 16 := ⟨_, rfl⟩
          obtain ⟨r, hr⟩ : ∃ r, r = c.toNat % 16 := ⟨_, rfl⟩
          have q1 : IntKind.u8.wrap ((c.toNat : Int) / 16) = (q : Int) := by
            rw [hq]
            simp only [IntKind.wrap, IntKind.signed, IntKind.bits]
            simp
            omega
          have r1 : ((c.toNat : Int)).tmod 16 = (r : Int) := by rw [hr, Int.tmod_eq_emod_of_nonneg (by omega)]; omega
          have q6 : IntKind.u8.wrap (q : Int) = (q : Int) := by
            simp only [IntKind.wrap, IntKind.signed, IntKind.bits]
            simp
            omega
          have q7 : IntKind.u8.wrap ((q : Int) + 1) = (q : Int) + 1 := by
            simp only [IntKind.wrap, IntKind.signed, IntKind.bits]
            simp
            omega
          have r7 : IntKind.u8.wrap ((r : Int) + 1) = (r : Int) + 1 := by
            simp only [IntKind.wrap, IntKind.signed, IntKind.bits]
            simp
            omega
          have q5 : (c.toNat : Int) / 16 = (q : Int) := by omega
          have r5 : (c.toNat : Int) % 16 = (r : Int) := by omega
          have q2 : (q : Int) < 16 := by omega
          have r2 : (r : Int) < 16 := by omega
          have q8 : (q : Int) + 1 ≤ 16 := by omega
          have r8 : (r : Int) + 1 ≤ 16 := by omega
          have q9 : (q : Int) ≤ (q : Int) + 1 := by omega
          have r9 : (r : Int) ≤ (r : Int) + 1 := by omega
          have qc : (ByteArray.mk #[48, 49, 50, 51, 52, 53, 54, 55, 56, 57, 97, 98, 99, 100, 101, 102]).extract q (q + 1) = ByteArray.mk #[hexd q] := cut_one hexL q _ (by unfold hexd; rw [List.getD_eq_getElem?_getD, List.getElem?_eq_getElem (show q < hexL.length by show q < 16; omega)]; rfl)
          have rc : (ByteArray.mk #[48, 49, 50, 51, 52, 53, 54, 55, 56, 57, 97, 98, 99, 100, 101, 102]).extract r (r + 1) = ByteArray.mk #[hexd r] := cut_one hexL r _ (by unfold hexd; rw [List.getD_eq_getElem?_getD, List.getElem?_eq_getElem (show r < hexL.length by show r < 16; omega)]; rfl)
          have t1 : ByteArray.mk #[92, 117, 48, 48] ++ ByteArray.mk #[hexd q] = ByteArray.mk #[92, 117, 48, 48, hexd q] := cat_two [92, 117, 48, 48] [hexd q] _ rfl
          have t2 : ByteArray.mk #[92, 117, 48, 48, hexd q] ++ ByteArray.mk #[hexd r] = ByteArray.mk #[92, 117, 48, 48, hexd q, hexd r] := cat_two [92, 117, 48, 48, hexd q] [hexd r] _ rfl
          have FIN : Hid (ByteArray.mk u.toArray ++ ByteArray.mk #[92, 117, 48, 48, hexd q, hexd r] = ByteArray.mk (34 :: (s.take (k + 1)).flatMap byteS).toArray) := hidI (by rw [HU.out _ E2.out, if_pos (by omega), hq, hr]; exact cat_two u [92, 117, 48, 48, hexd (c.toNat / 16), hexd (c.toNat % 16)] _ rfl)
          clear HU E2 hq hr hc
          by_cases g : c.toNat < 32
          · have g1 : ¬ (32 : Int) ≤ (c.toNat : Int) := by omega
            clear hpl g
            go_wp2_with fail
            refine (Tryz.strings_IndexByte _ _ _).mono ?_
            rintro e w1 ⟨rfl, rfl⟩
            rw [e1']
            clear e1'
            go_wp2_with fail
            go_quiet (fail)
            go_wp2_with fail
            go_roundg (s.length - (k + 1))
            case measure => rw [GK.out]; omega
            case rel => exact ⟨k + 1, by omega, rfl, by go_num, by rw [FIN.out], by first | exact BL.out | exact bel_trans BL.out (bel_drewN _ _)⟩
          · have g1 : (32 : Int) ≤ (c.toNat : Int) := by omega
            have g2 : ¬ (c.toNat : Int) < 127 := by omega
            clear hpl g
            go_wp2_with fail
            refine (Tryz.strings_IndexByte _ _ _).mono ?_
            rintro e w1 ⟨rfl, rfl⟩
            rw [e1']
            clear e1'
            go_wp2_with fail
            go_quiet (fail)
            go_wp2_with fail
            go_roundg (s.length - (k + 1))
            case measure => rw [GK.out]; omega
            case rel => exact ⟨k + 1, by omega, rfl, by go_num, by rw [FIN.out], by first | exact BL.out | exact bel_trans BL.out (bel_drewN _ _)⟩
    · have hke : k = s.length := by omega
      have d1 : ¬ (k : Int) < (s.length : Int) := by omega
      have hul := byte_part s k hs
      have FIN : Hid (ByteArray.mk (34 :: (s.take k).flatMap byteS).toArray ++ ByteArray.mk #[34] = ByteArray.mk (quoteS s).toArray) := hidI (by rw [hke, List.take_of_length_le (Nat.le_refl _)]; exact cat_two _ [34] _ rfl)
      obtain ⟨u, hu⟩ : ∃ u, 34 :: (s.take k).flatMap byteS = u := ⟨_, rfl⟩
      rw [hu] at hul FIN ⊢
      clear hke hu
      go_wp2_with fail
      go_ret
      exact ⟨by rw [← FIN.out]; rfl, bel_trans HB.out BL.out⟩
end Go.Proofs.YtkboplcffailoaaGreatDoor

/- What decimal and text of package stairwellref do, and strings.Join of a row of the call's own. -/
set_option linter.unusedSimpArgs false
set_option linter.unusedVariables false
namespace Go.Proofs.YtkboplcffailoaaGreatDoor
open Go.RowKit

theorem decS_dec (n : Nat) : decS n = Lib.decDigits n := by
  induction n using Nat.strongRecOn with
  | _ n ih =>
    rw [decS, Lib.decDigits]
    by_cases h : n < 10
    · rw [dif_pos h, dif_pos h]
    · rw [dif_neg h, dif_neg h, ih (n / 10) (by omega)]
set_option maxRecDepth 100000 in
set_option maxHeartbeats 4000000 in
theorem rdec_neg (w : World) (u : Nat) (h1 : 1 ≤ u) (h2 : u ≤ 9007199254740992) :
    Calls Tryz.prog 25 #[.int .i64 (-(u : Int))] w fun e w' => e = .returned (str (45 :: decS u)) ∧ Below w.heap.size w w' := by
  have d0 : -(u : Int) < 0 := by omega
  have hl : (decS u).length ≤ 20 := decS_short (by omega)
  have HC : Hid (ByteArray.mk #[45] ++ ByteArray.mk (decS u).toArray = ByteArray.mk (45 :: decS u).toArray) := hidI (ba_app [45] (decS u))
  go_enter Tryz.func25, Tryz.ntmps25
  go_wp2_with fail
  try rw [Int.neg_neg]
  refine (rdec_nat 18 _ u (by omega) (by omega)).mono ?_
  rintro e w1 ⟨rfl, hb1⟩
  have K1 := hidI hb1
  clear hb1
  unfold str
  go_wp2_with fail
  go_ret
  exact ⟨by rw [HC.out]; first | done | rfl, K1.out⟩
theorem rdec_is (w : World) (n : Int) (h1 : -9007199254740992 ≤ n) (h2 : n ≤ 9007199254740992) :
    Calls Tryz.prog 25 #[.int .i64 n] w fun e w' => e = .returned (str (Lib.itoa n)) ∧ Below w.heap.size w w' := by
  by_cases h : n < 0
  · obtain ⟨u, hu⟩ : ∃ u : Nat, n = -(u : Int) := ⟨n.natAbs, by omega⟩
    subst hu
    rw [Lib.itoa_neg u (by omega), ← decS_dec]
    exact rdec_neg w u (by omega) (by omega)
  · obtain ⟨u, hu⟩ : ∃ u : Nat, n = (u : Int) := ⟨n.toNat, by omega⟩
    subst hu
    rw [Lib.itoa_nonneg, ← decS_dec]
    exact rdec_nat 18 w u (by omega) (by omega)
theorem comma_join : ∀ (ps : List (List UInt8)), commaS ps = Lib.join ps [44]
  | [] => rfl
  | [x] => by rw [Lib.join_one]; rfl
  | x :: y :: r => by
    rw [commaS, comma_join (y :: r)]
    simp [Lib.join, List.intercalate]
set_option maxRecDepth 100000 in
theorem rjoins_is (w : World) (B : Nat) (pv : Value) (ps : List (List UInt8)) (h : w.ownsRow B 9 1 pv ps.length (ps.map str)) (hl : (commaS ps).length ≤ 100000000) (hn : ps.length ≤ 100000000) :
    Calls Tryz.prog 26 #[pv, .string ⟨#[44]⟩] w fun e w' => e = .returned (.string ⟨(commaS ps).toArray⟩) ∧ Below w.heap.size w w' := by
  have em : (ps.map fun p => ByteArray.mk p.toArray).map (·.data.toList) = ps := by
    rw [List.map_map]
    conv => rhs; rw [← List.map_id ps]
    apply List.map_congr_left
    intro a _
    simp
  rcases h.2 with ⟨h1, h2⟩ | ⟨g, cap, cur, h1, h2, h3, h4, h5, h6, h7⟩
  · have : ps = [] := List.eq_nil_of_length_eq_zero h2
    subst this
    rw [h1]
    refine (Tryz.strings_Join_none none 0 ⟨#[44]⟩ w).mono ?_
    rintro e w' ⟨rfl, rfl⟩
    exact ⟨rfl, Below.refl _ _⟩
  · have hcells : ∀ (j : Nat) x, (ps.map fun p => ByteArray.mk p.toArray)[j]? = some x → w.cell? ⟨g, 0 + j, none⟩ = some (.string x) := by
      intro j x hx
      rw [List.getElem?_map] at hx
      obtain ⟨p, hp, rfl⟩ := Option.map_eq_some_iff.1 hx
      have hj := (List.getElem?_eq_some_iff.1 hp).1
      have e9 : (cur.toList.take (ps.length * 1))[j]? = (ps.map str)[j]? := by rw [h7]
      rw [List.getElem?_take_of_lt (by omega), List.getElem?_map, hp] at e9
      simp only [World.cell?, h3]
      simpa [str] using e9
    have hbk : g < w.heap.size := (Array.getElem?_eq_some_iff.1 h3).1
    have e1 : (ps.map fun p => ByteArray.mk p.toArray).length = ps.length := by simp
    have hj := comma_join ps
    have key := Tryz.strings_Join g 0 cap (ps.map fun p => ByteArray.mk p.toArray) ⟨#[44]⟩ w hcells hbk
    rw [e1, em] at key
    have e2 : (ByteArray.mk #[44]).data.toList = [44] := rfl
    rw [e2, ← hj] at key
    rw [h1]
    exact key (Nat.le_trans hn (by decide)) h4 (Nat.le_trans hl (by decide))
/- The parts of a value's text. -/
def prts (D : Nat) (t : V) : List (List UInt8) := if t.kind = 5 then pairS (printS D) t.keys t.l else t.l.map (printS D)
theorem rise_plain : ∀ (ks : List (List UInt8)) (p : Option (List UInt8)), riseFrom p ks = true → ∀ k ∈ ks, plainB k = true
  | [], _, _, k, hk => by simp at hk
  | x :: ks, p, h, k, hk => by
    simp only [riseFrom, Bool.and_eq_true] at h
    rcases List.mem_cons.1 hk with rfl | hk
    · exact h.1.1
    · exact rise_plain ks _ h.2 k hk
theorem plain_all {s : List UInt8} (h : plainB s = true) : s.length ≤ 1000000 ∧ ∀ c ∈ s, c.toNat < 128 := by
  simp only [plainB, Bool.and_eq_true, decide_eq_true_eq, List.all_eq_true] at h
  exact ⟨by omega, h.2⟩
theorem shaped_kinds {t : V} (h : shapedB t = true) : (t.kind = 0 ∧ t.l = []) ∨ (t.kind = 1 ∧ t.l = []) ∨ (t.kind = 2 ∧ t.l = [] ∧ -9007199254740992 ≤ t.n ∧ t.n ≤ 9007199254740992) ∨ (t.kind = 3 ∧ t.l = [] ∧ plainB t.s = true) ∨ t.kind = 4 ∨ (t.kind = 5 ∧ t.keys.length = t.l.length ∧ ∀ k ∈ t.keys, plainB k = true) := by
  unfold shapedB at h
  split at h
  · rename_i hk
    simp only [listlessB, Bool.and_eq_true, decide_eq_true_eq] at h
    exact .inl ⟨hk, List.eq_nil_of_length_eq_zero h.2.2⟩
  split at h
  · rename_i hk
    simp only [listlessB, Bool.and_eq_true, Bool.or_eq_true, decide_eq_true_eq] at h
    exact .inr (.inl ⟨hk, List.eq_nil_of_length_eq_zero h.2.2⟩)
  split at h
  · rename_i hk
    simp only [listlessB, Bool.and_eq_true, decide_eq_true_eq] at h
    exact .inr (.inr (.inl ⟨hk, List.eq_nil_of_length_eq_zero h.2.2, h.1.1.1, h.1.1.2⟩))
  split at h
  · rename_i hk
    simp only [listlessB, Bool.and_eq_true, decide_eq_true_eq] at h
    exact .inr (.inr (.inr (.inl ⟨hk, List.eq_nil_of_length_eq_zero h.2.2, h.1.2⟩)))
  split at h
  · rename_i hk
    exact .inr (.inr (.inr (.inr (.inl hk))))
  split at h
  · rename_i hk
    simp only [Bool.and_eq_true, decide_eq_true_eq] at h
    exact .inr (.inr (.inr (.inr (.inr ⟨hk, h.1.2, rise_plain _ _ h.2⟩))))
  · cases h
theorem prts_len {D : Nat} {t : V} (h : shapedB t = true) : (prts D t).length = t.l.length := by
  unfold prts
  split
  · rename_i hk
    rcases shaped_kinds h with ⟨e, _⟩ | ⟨e, _⟩ | ⟨e, _⟩ | ⟨e, _⟩ | e | ⟨_, e, _⟩
    · omega
    · omega
    · omega
    · omega
    · omega
    · simp [pairS, e]
  · simp
theorem prts_at4 {D k : Nat} {t : V} (hk : t.kind ≠ 5) (hlt : k < t.l.length) : (prts D t)[k]? = some (printS D t.l[k]) := by
  unfold prts
  rw [if_neg hk, List.getElem?_map, List.getElem?_eq_getElem hlt]
  rfl
theorem prts_at5 {D k : Nat} {t : V} (hk : t.kind = 5) (hlt : k < t.l.length) (hlk : k < t.keys.length) : (prts D t)[k]? = some (quoteS t.keys[k] ++ 58 :: printS D t.l[k]) := by
  unfold prts pairS
  rw [if_pos hk, List.getElem?_zipWith, List.getElem?_eq_getElem hlt, List.getElem?_eq_getElem hlk]
theorem prts_comma {D : Nat} {t : V} (h : shapedB t = true) (hl : (printS (D + 1) t).length ≤ 100000000) : (commaS (prts D t)).length ≤ 100000000 := by
  rcases shaped_kinds h with ⟨e, e2⟩ | ⟨e, e2⟩ | ⟨e, e2, _⟩ | ⟨e, e2, _⟩ | e | ⟨e, _⟩
  · simp [prts, e, e2, commaS]
  · simp [prts, e, e2, commaS]
  · simp [prts, e, e2, commaS]
  · simp [prts, e, e2, commaS]
  · simp [printS, e] at hl
    simp [prts, e]
    omega
  · simp [printS, e] at hl
    simp [prts, e]
    omega
/- On the way through the items. -/
def TxI (w : World) (t : V) (a1 a2 : Option Addr) (c1 c2 : Nat) (ps : List (List UInt8)) (k : Nat) (pv : Value) (wr : World) : Prop :=
  wr.ownsRow (w.heap.size + 1) 9 1 pv k ((ps.take k).map str) ∧ BoxIs wr w.heap.size (.int .i64 t.kind) (.int .i64 t.n) (.string ⟨t.s.toArray⟩) (.slice a1 t.keys.length c1) (.slice a2 t.l.length c2) ∧ Below w.heap.size w wr
theorem TxI.form {w wr : World} {t : V} {a1 a2 : Option Addr} {c1 c2 : Nat} {ps : List (List UInt8)} {k : Nat} {pv : Value} (h : TxI w t a1 a2 c1 c2 ps k pv wr) : ∃ a c, pv = .slice a k c := by
  rcases h.1.2 with ⟨h1, h2⟩ | ⟨g, cap, cur, h1, -⟩
  · exact ⟨none, 0, by rw [h1, h2]⟩
  · exact ⟨_, _, h1⟩
theorem TxI.bel {w wr wr' : World} {t : V} {a1 a2 : Option Addr} {c1 c2 : Nat} {ps : List (List UInt8)} {k : Nat} {pv : Value} (h : TxI w t a1 a2 c1 c2 ps k pv wr) (hb : Below wr.heap.size wr wr') : TxI w t a1 a2 c1 c2 ps k pv wr' :=
  ⟨own_belK h.1 hb, box_bel hb h.2.1, bel_trans h.2.2 hb⟩
theorem TxI.push {w wr W' : World} {t : V} {a1 a2 : Option Addr} {c1 c2 : Nat} {ps : List (List UInt8)} {k g cap : Nat} {pv : Value} {p : List UInt8} (h : TxI w t a1 a2 c1 c2 ps k pv wr) (hp : ps[k]? = some p) (ho : W'.ownsRow (w.heap.size + 1) 9 1 (.slice (some ⟨g, 0, none⟩) (k + 1) cap) (k + 1) ((ps.take k).map str ++ [.string ⟨p.toArray⟩])) (hg : (wr.alloc (.cells #[.string ⟨p.toArray⟩] 9)).grownBy W' pv.ownBlock) :
    TxI w t a1 a2 c1 c2 ps (k + 1) (.slice (some ⟨g, 0, none⟩) (k + 1) cap) W' := by
  have hlow : ∀ j, pv.ownBlock = some j → w.heap.size + 1 ≤ j := fun j hj => (h.1.lt j hj).1
  refine ⟨by rw [take_step hp, List.map_append]; exact ho, ?_, ?_⟩
  · refine (box_bel (bel_alloc wr _) h.2.1).grown hg fun e => ?_
    have := hlow _ e.symm
    omega
  · refine gb_far (bel_trans h.2.2 (bel_alloc _ _)) hg fun g' e => ?_
    have := hlow _ e
    omega
def TextC (D : Nat) : Prop := ∀ (w : World) (ok : Nat → Prop) (t : V) (v : Value), In w ok t v → GoodT D t → cnt t ≤ 1000 → (printS D t).length ≤ 100000000 →
    Calls Tryz.prog 14 #[v] w fun e w' => e = .returned (str (printS D t)) ∧ Below w.heap.size w w'

set_option maxRecDepth 100000 in
set_option maxHeartbeats 8000000 in
theorem rtext_succ (D : Nat) (ih : TextC D) : TextC (D + 1) := by
  intro w ok t v h hgt hN hL
  have IH := hidI ih
  have H := hidI h
  have SH := hidI hgt.1
  have GX := hidI hgt.2
  have HL := hidI hL
  have NX : Hid (∀ x ∈ t.l, cnt x ≤ 1000) := hidI (by intro x hx; have := cnts_mem hx; rw [cnt_eq] at hN; omega)
  have ll : t.l.length ≤ 1000 := by have := cnts_len t.l; rw [cnt_eq] at hN; omega
  have lk := (h.lens).2.2
  have PL := hidI (prts_len (D := D) hgt.1)
  have PC := hidI (prts_comma hgt.1 hL)
  obtain ⟨a1, a2, c1, c2, rfl⟩ := h.form
  have I0 : Hid (TxI w t a1 a2 c1 c2 (prts D t) 0 (.slice none 0 0) (w.alloc (.cells #[.int .i64 t.kind, .int .i64 t.n, .string ⟨t.s.toArray⟩, .slice a1 t.keys.length c1, .slice a2 t.l.length c2] 25))) := hidI ⟨World.ownsRow_nil _ _ _ _, heap_alloc_new w _, bel_alloc _ _⟩
  clear ih h hgt hN hL
  go_enter Tryz.func14, Tryz.ntmps14
  obtain ⟨b0, b1, b2, b3, b4, -⟩ := I0.out.2.1.c
  go_wp2_with fail
  clear b0 b1 b2 b3 b4
  go_loopg [3, 10] t.l.length (fun gi pv i wr => ∃ k : Nat, k ≤ t.l.length ∧ gi = t.l.length - k ∧ i = .int .i64 k ∧ TxI w t a1 a2 c1 c2 (prts D t) k pv wr)
  case atStart => exact ⟨0, Nat.zero_le _, rfl, rfl, I0.out⟩
  case round =>
    obtain ⟨k, hk, hgi, rfl, hI⟩ := hrel
    have GI := hidI hgi
    obtain ⟨pa, pc, rfl⟩ := hI.form
    have J := hidI hI
    clear hgi hI
    by_cases hlt : k < t.l.length
    · obtain ⟨xb, xo, p5, q5, p6, q6, rfl, x1, x2, g0, g1, g2, g3, g4, g5⟩ := (H.out.bel J.out.2.2).item hlt
      obtain ⟨x, hx⟩ : ∃ x, t.l[k] = x := ⟨_, rfl⟩
      have HX := hidI hx
      rw [hx] at g0 g1 g2 g3 g4 g5
      have hmem : x ∈ t.l := by rw [← hx]; exact List.getElem_mem hlt
      have X5 := hidI (g5.bel (bel_alloc wr (.cells #[.int .i64 x.kind, .int .i64 x.n, .string ⟨x.s.toArray⟩, .slice p5 x.keys.length q5, .slice p6 x.l.length q6] 25)))
      have XG := hidI (GX.out x hmem)
      have XN := hidI (NX.out x hmem)
      have JJ1 := hidI (J.out.bel (bel_alloc wr (.cells #[.int .i64 x.kind, .int .i64 x.n, .string ⟨x.s.toArray⟩, .slice p5 x.keys.length q5, .slice p6 x.l.length q6] 25)))
      obtain ⟨n0, n1, n2, n3, n4, -⟩ := (show BoxIs (wr.alloc (.cells #[.int .i64 x.kind, .int .i64 x.n, .string ⟨x.s.toArray⟩, .slice p5 x.keys.length q5, .slice p6 x.l.length q6] 25)) wr.heap.size (.int .i64 x.kind) (.int .i64 x.n) (.string ⟨x.s.toArray⟩) (.slice p5 x.keys.length q5) (.slice p6 x.l.length q6) from heap_alloc_new wr _).c
      have w1 : (0 : Int) ≤ (k : Int) := by omega
      have w2 : (k : Int) < (t.l.length : Int) := by omega
      clear hx hmem g5
      by_cases h5 : t.kind = 5
      · have q5 : (t.kind == 5) = true := by simp [h5]
        have hlk : k < t.keys.length := by
          rcases shaped_kinds SH.out with ⟨e, _⟩ | ⟨e, _⟩ | ⟨e, _⟩ | ⟨e, _⟩ | e | ⟨_, e, _⟩ <;> omega
        have hkp : plainB t.keys[k] = true := by
          rcases shaped_kinds SH.out with ⟨e, _⟩ | ⟨e, _⟩ | ⟨e, _⟩ | ⟨e, _⟩ | e | ⟨_, _, e⟩
          all_goals first | exact e _ (List.getElem_mem _) | omega
        obtain ⟨y, hy⟩ : ∃ y, printS D x = y := ⟨_, rfl⟩
        obtain ⟨ky, hky⟩ : ∃ ky, t.keys[k] = ky := ⟨_, rfl⟩
        have PP : Hid ((prts D t)[k]? = some (quoteS ky ++ 58 :: y)) := hidI (by rw [prts_at5 h5 hlt hlk, HX.out, hy, hky])
        have PB : Hid ((quoteS ky ++ 58 :: y).length ≤ 100000000) := hidI (by have := part_len PP.out; have := PC.out; omega)
        have YL : Hid ((printS D x).length ≤ 100000000) := hidI (by have := PB.out; simp only [List.length_append, List.length_cons] at this; rw [hy]; omega)
        have HY := hidI hy
        have HKY := hidI hky
        rw [hky] at hkp
        have KP := hidI hkp
        clear hkp
        have hyl : y.length ≤ 100000000 := by rw [← hy]; exact YL.out
        have hql : (quoteS ky).length ≤ 100000000 := by have := PB.out; simp only [List.length_append, List.length_cons] at this; omega
        clear hy hky h5
        go_wp2_with fail
        refine (IH.out _ ok x _ (by exact X5.out) XG.out XN.out YL.out).mono ?_
        rintro e w1 ⟨rfl, hb1⟩
        have JJ2 := hidI (JJ1.out.bel hb1)
        clear hb1 n0 n1 n2 n3 n4 g0 g1 g2 g3 g4
        unfold str
        rw [HY.out]
        obtain ⟨kb, ko, rfl, k1, k2, k3, k4⟩ := (H.out.bel JJ2.out.2.2).key hlk
        rw [HKY.out] at k3 k4
        obtain ⟨b0, b1, b2, b3, b4, -⟩ := JJ2.out.2.1.c
        have w3 : (k : Int) < (t.keys.length : Int) := by omega
        go_wp2_with fail
        refine (rquoted_is _ ky (plain_all KP.out).1 (plain_all KP.out).2).mono ?_
        rintro e w2 ⟨rfl, hb2⟩
        have JJ := hidI (JJ2.out.bel hb2)
        clear hb2 b0 b1 b2 b3 b4 k3 k4
        unfold str
        obtain ⟨q, hq⟩ : ∃ q, quoteS ky = q := ⟨_, rfl⟩
        rw [hq] at hql PP PB ⊢
        obtain ⟨p, hp⟩ : ∃ p, q ++ 58 :: y = p := ⟨_, rfl⟩
        have C1 : ByteArray.mk q.toArray ++ ByteArray.mk #[58] = ByteArray.mk (q ++ [58]).toArray := ba_app q [58]
        have C2 : ByteArray.mk (q ++ [58]).toArray ++ ByteArray.mk y.toArray = ByteArray.mk p.toArray := by rw [ba_app (q ++ [58]) y, ← hp]; simp
        have hql2 : (q ++ [58]).length ≤ 100000001 := by simp; omega
        rw [hp] at PP PB
        clear hq hp
        go_upto_region 8 with fail
        obtain ⟨g7, c7, W7, hR, ho7, hg7, -⟩ := run_pushS (W := w2.alloc (.cells #[.string ⟨p.toArray⟩] 9)) (B := w.heap.size + 1) (v := .slice pa k pc) (n := k) (cs := ((prts D t).take k).map str) (nb := w2.heap.size) (k := ⟨p.toArray⟩) (own_belK JJ.out.1 (bel_alloc _ _)) (heap_alloc_new _ _) (by omega) (Nat.le_trans (show w.heap.size + 1 ≤ w2.heap.size from JJ.out.2.1.lt) (bel_alloc w2 _).size) 22
        have HR := hidI hR
        have FIN := hidI (JJ.out.push PP.out ho7 hg7)
        clear hR ho7 hg7 JJ
        go_wp2_with (at_builtin; go_must (refine Lib.wpList_append_run _ rfl _ _ _ _ rfl (.slice pa k pc) (.slice (some ⟨w2.heap.size, 0, none⟩) 1 1) rfl rfl _ _ (by exact HR.out) ?_); refine Hid.out ?_)
        refine hidI ?_
        go_wp2_with fail
        go_roundg (t.l.length - (k + 1))
        case measure => rw [GI.out]; omega
        case rel => exact ⟨k + 1, hlt, rfl, by go_num, FIN.out⟩
      · have q5 : (t.kind == 5) = false := by simp [h5]
        obtain ⟨y, hy⟩ : ∃ y, printS D x = y := ⟨_, rfl⟩
        have PP : Hid ((prts D t)[k]? = some y) := hidI (by rw [prts_at4 h5 hlt, HX.out, hy])
        have YL : Hid ((printS D x).length ≤ 100000000) := hidI (by have := part_len PP.out; have := PC.out; rw [hy]; omega)
        have HY := hidI hy
        clear hy h5
        go_wp2_with fail
        refine (IH.out _ ok x _ (by exact X5.out) XG.out XN.out YL.out).mono ?_
        rintro e w1 ⟨rfl, hb1⟩
        have JJ2 := hidI (JJ1.out.bel hb1)
        clear hb1 n0 n1 n2 n3 n4 g0 g1 g2 g3 g4
        unfold str
        rw [HY.out]
        obtain ⟨b0, b1, b2, b3, b4, -⟩ := JJ2.out.2.1.c
        have JJ := hidI JJ2.out
        clear JJ2
        go_upto_region 8 with fail
        clear b0 b1 b2 b3 b4
        obtain ⟨g7, c7, W7, hR, ho7, hg7, -⟩ := run_pushS (W := w1.alloc (.cells #[.string ⟨y.toArray⟩] 9)) (B := w.heap.size + 1) (v := .slice pa k pc) (n := k) (cs := ((prts D t).take k).map str) (nb := w1.heap.size) (k := ⟨y.toArray⟩) (own_belK JJ.out.1 (bel_alloc _ _)) (heap_alloc_new _ _) (by omega) (Nat.le_trans (show w.heap.size + 1 ≤ w1.heap.size from JJ.out.2.1.lt) (bel_alloc w1 _).size) 22
        have HR := hidI hR
        have FIN := hidI (JJ.out.push PP.out ho7 hg7)
        clear hR ho7 hg7 JJ
        go_wp2_with (at_builtin; go_must (refine Lib.wpList_append_run _ rfl _ _ _ _ rfl (.slice pa k pc) (.slice (some ⟨w1.heap.size, 0, none⟩) 1 1) rfl rfl _ _ (by exact HR.out) ?_); refine Hid.out ?_)
        refine hidI ?_
        go_wp2_with fail
        go_roundg (t.l.length - (k + 1))
        case measure => rw [GI.out]; omega
        case rel => exact ⟨k + 1, hlt, rfl, by go_num, FIN.out⟩
    · have hke : k = t.l.length := by omega
      have d1 : ¬ (k : Int) < (t.l.length : Int) := by omega
      have OWN : Hid (wr.ownsRow (w.heap.size + 1) 9 1 (.slice pa t.l.length pc) t.l.length ((prts D t).map str)) := hidI (by
        have := J.out.1
        rw [hke, List.take_of_length_le (by rw [PL.out]; exact Nat.le_refl _)] at this
        exact this)
      have OK : Hid (wr.ownsRow (w.heap.size + 1) 9 1 (.slice pa k pc) t.l.length ((prts D t).map str)) := hidI (by rw [hke]; exact OWN.out)
      clear OWN
      have OWN := OK
      clear OK hke
      rcases shaped_kinds SH.out with ⟨e, _⟩ | ⟨e, _⟩ | ⟨e, _, n1, n2⟩ | ⟨e, _, hpl⟩ | e | ⟨e, _⟩
      · have q0 : (t.kind == 0) = true := by simp [e]
        have q1 : (t.kind == 1) = false := by simp [e]
        have q2 : (t.kind == 2) = false := by simp [e]
        have q3 : (t.kind == 3) = false := by simp [e]
        have q4 : (t.kind == 4) = false := by simp [e]
        have q5 : (t.kind == 5) = false := by simp [e]
        obtain ⟨b0, b1, b2, b3, b4, -⟩ := J.out.2.1.c
        have R : Hid (printS (D + 1) t = [110, 117, 108, 108]) := hidI (by simp [printS, e])
        clear e
        go_wp2_with fail
        go_ret
        exact ⟨by rw [R.out]; rfl, J.out.2.2⟩
      · have q0 : (t.kind == 0) = false := by simp [e]
        have q1 : (t.kind == 1) = true := by simp [e]
        have q2 : (t.kind == 2) = false := by simp [e]
        have q3 : (t.kind == 3) = false := by simp [e]
        have q4 : (t.kind == 4) = false := by simp [e]
        have q5 : (t.kind == 5) = false := by simp [e]
        obtain ⟨b0, b1, b2, b3, b4, -⟩ := J.out.2.1.c
        by_cases hn : t.n = 1
        · have m1 : (t.n == 1) = true := by simp [hn]
          have R : Hid (printS (D + 1) t = [116, 114, 117, 101]) := hidI (by simp [printS, e, boolS, hn])
          clear e hn
          go_wp2_with fail
          go_ret
          exact ⟨by rw [R.out]; rfl, J.out.2.2⟩
        · have m1 : (t.n == 1) = false := by simp [hn]
          have R : Hid (printS (D + 1) t = [102, 97, 108, 115, 101]) := hidI (by simp [printS, e, boolS, hn])
          clear e hn
          go_wp2_with fail
          go_ret
          exact ⟨by rw [R.out]; rfl, J.out.2.2⟩
      · have q0 : (t.kind == 0) = false := by simp [e]
        have q1 : (t.kind == 1) = false := by simp [e]
        have q2 : (t.kind == 2) = true := by simp [e]
        have q3 : (t.kind == 3) = false := by simp [e]
        have q4 : (t.kind == 4) = false := by simp [e]
        have q5 : (t.kind == 5) = false := by simp [e]
        obtain ⟨b0, b1, b2, b3, b4, -⟩ := J.out.2.1.c
        have R : Hid (printS (D + 1) t = Lib.itoa t.n) := hidI (by simp [printS, e])
        clear e
        go_wp2_with fail
        refine (rdec_is _ t.n n1 n2).mono ?_
        rintro e w1 ⟨rfl, hb1⟩
        have B1 := hidI (bel_trans J.out.2.2 hb1)
        clear hb1 n1 n2
        go_wp2_with fail
        go_ret
        exact ⟨by rw [R.out]; first | done | rfl, B1.out⟩
      · have q0 : (t.kind == 0) = false := by simp [e]
        have q1 : (t.kind == 1) = false := by simp [e]
        have q2 : (t.kind == 2) = false := by simp [e]
        have q3 : (t.kind == 3) = true := by simp [e]
        have q4 : (t.kind == 4) = false := by simp [e]
        have q5 : (t.kind == 5) = false := by simp [e]
        obtain ⟨b0, b1, b2, b3, b4, -⟩ := J.out.2.1.c
        have R : Hid (printS (D + 1) t = quoteS t.s) := hidI (by simp [printS, e])
        have PA := hidI (plain_all hpl)
        clear e hpl
        go_wp2_with fail
        refine (rquoted_is _ t.s PA.out.1 PA.out.2).mono ?_
        rintro e w1 ⟨rfl, hb1⟩
        have B1 := hidI (bel_trans J.out.2.2 hb1)
        clear hb1
        go_wp2_with fail
        go_ret
        exact ⟨by rw [R.out]; first | done | rfl, B1.out⟩
      · have q0 : (t.kind == 0) = false := by simp [e]
        have q1 : (t.kind == 1) = false := by simp [e]
        have q2 : (t.kind == 2) = false := by simp [e]
        have q3 : (t.kind == 3) = false := by simp [e]
        have q4 : (t.kind == 4) = true := by simp [e]
        have q5 : (t.kind == 5) = false := by simp [e]
        obtain ⟨b0, b1, b2, b3, b4, -⟩ := J.out.2.1.c
        have R : Hid (ByteArray.mk #[91] ++ ByteArray.mk (commaS (prts D t)).toArray ++ ByteArray.mk #[93] = ByteArray.mk (printS (D + 1) t).toArray) := hidI (by
          have h1 : ByteArray.mk #[91] ++ ByteArray.mk (commaS (prts D t)).toArray = ByteArray.mk (91 :: commaS (prts D t)).toArray := ba_app [91] _
          have h2 : ByteArray.mk (91 :: commaS (prts D t)).toArray ++ ByteArray.mk #[93] = ByteArray.mk (91 :: commaS (prts D t) ++ [93]).toArray := ba_app _ [93]
          rw [h1, h2]
          simp [printS, e, prts])
        have hcl := PC.out
        clear e
        go_wp2_with fail
        refine (rjoins_is _ (w.heap.size + 1) _ (prts D t) (by rw [PL.out]; exact OWN.out) hcl (by rw [PL.out]; omega)).mono ?_
        rintro e w1 ⟨rfl, hb1⟩
        have B1 := hidI (bel_trans J.out.2.2 hb1)
        clear hb1
        obtain ⟨cm, hcm⟩ : ∃ cm, commaS (prts D t) = cm := ⟨_, rfl⟩
        rw [hcm] at R hcl ⊢
        clear hcm
        go_wp2_with fail
        go_ret
        exact ⟨by rw [str, ← R.out]; first | done | rfl, B1.out⟩
      · have q0 : (t.kind == 0) = false := by simp [e]
        have q1 : (t.kind == 1) = false := by simp [e]
        have q2 : (t.kind == 2) = false := by simp [e]
        have q3 : (t.kind == 3) = false := by simp [e]
        have q4 : (t.kind == 4) = false := by simp [e]
        have q5 : (t.kind == 5) = true := by simp [e]
        obtain ⟨b0, b1, b2, b3, b4, -⟩ := J.out.2.1.c
        have R : Hid (ByteArray.mk #[123] ++ ByteArray.mk (commaS (prts D t)).toArray ++ ByteArray.mk #[125] = ByteArray.mk (printS (D + 1) t).toArray) := hidI (by
          have h1 : ByteArray.mk #[123] ++ ByteArray.mk (commaS (prts D t)).toArray = ByteArray.mk (123 :: commaS (prts D t)).toArray := ba_app [123] _
          have h2 : ByteArray.mk (123 :: commaS (prts D t)).toArray ++ ByteArray.mk #[125] = ByteArray.mk (123 :: commaS (prts D t) ++ [125]).toArray := ba_app _ [125]
          rw [h1, h2]
          simp [printS, e, prts])
        have hcl := PC.out
        clear e
        go_wp2_with fail
        refine (rjoins_is _ (w.heap.size + 1) _ (prts D t) (by rw [PL.out]; exact OWN.out) hcl (by rw [PL.out]; omega)).mono ?_
        rintro e w1 ⟨rfl, hb1⟩
        have B1 := hidI (bel_trans J.out.2.2 hb1)
        clear hb1
        obtain ⟨cm, hcm⟩ : ∃ cm, commaS (prts D t) = cm := ⟨_, rfl⟩
        rw [hcm] at R hcl ⊢
        clear hcm
        go_wp2_with fail
        go_ret
        exact ⟨by rw [str, ← R.out]; first | done | rfl, B1.out⟩
theorem rtext_all : ∀ (D : Nat), TextC D
  | 0 => fun _ _ _ _ _ h => h.elim
  | D + 1 => rtext_succ D (rtext_all D)
end Go.Proofs.YtkboplcffailoaaGreatDoor

set_option linter.unusedSimpArgs false
set_option linter.unusedVariables false
namespace Go.Proofs.YtkboplcffailoaaGreatDoor
open Go.RowKit

theorem printR_depth {d : Nat} {t : V} (hd : Dep d t) : printR d t = printR 12 t := by
  unfold printR
  cases hg : goodV t with
  | false => rfl
  | true => rw [printS_fuel d 12 t hd (goodV_tree hg).dep]
theorem vis_dep {w : World} {ok : Nat → Prop} (d : Nat) : ∀ {t : V} {v : Value}, VIs w ok d t v → Dep d t := by
  induction d with
  | zero => intro t v h; exact h
  | succ d ih =>
    intro t v h x hx
    obtain ⟨ks, ls, e, h1, h2, h3, h4, h5⟩ := h
    obtain ⟨y, hy⟩ := vals_mem h5 hx
    exact ih hy
theorem print_is (w : World) (ok : Nat → Prop) (t : V) (v : Value) (h : In w ok t v) (hG : Glob w) :
    Calls Tryz.prog 5 #[v] w fun e w' => e = .returned (.tuple #[.string ⟨(printR 12 t).1.toArray⟩, .int .i64 (printR 12 t).2]) ∧ Below w.heap.size w w' := by
  obtain ⟨d, h⟩ := h
  refine (Print_at w ok d t v h hG).mono ?_
  rintro e w' ⟨l, ee, rfl, he, hb⟩
  rw [printR_depth (vis_dep d h)] at he
  rw [he]
  exact ⟨rfl, hb⟩
theorem good_cnt {t : V} (h : goodV t = true) : cnt t ≤ 120 := by
  rw [← good_ref] at h
  simp only [Bool.and_eq_true, decide_eq_true_eq] at h
  exact h.1.2
theorem good_short {t : V} (h : goodV t = true) : (printS 12 t).length ≤ 120000 := by
  have h1 : goodS 12 t 120 = (true, (goodS 12 t 120).2) := by unfold goodV at h; rw [← h]
  have h2 := good_len 12 12 t 120 _ (by omega) h1
  have h3 := (goodS_room 12 t 120 (by omega)).2.2 (by unfold goodV at h; exact h)
  omega
set_option maxRecDepth 100000 in
set_option maxHeartbeats 4000000 in
theorem rprint_is (w : World) (ok : Nat → Prop) (t : V) (v : Value) (h : In w ok t v) (hN : cnt t ≤ 1000000000000000) :
    Calls Tryz.prog 6 #[v] w fun e w' => e = .returned (.tuple #[.string ⟨(printR 12 t).1.toArray⟩, .int .i64 (printR 12 t).2]) ∧ Below w.heap.size w w' := by
  have H := hidI h
  have HN := hidI hN
  obtain ⟨a1, a2, c1, c2, rfl⟩ := h.form
  have K0 : Hid (BoxIs (w.alloc (.cells #[.int .i64 t.kind, .int .i64 t.n, .string ⟨t.s.toArray⟩, .slice a1 t.keys.length c1, .slice a2 t.l.length c2] 25)) w.heap.size (.int .i64 t.kind) (.int .i64 t.n) (.string ⟨t.s.toArray⟩) (.slice a1 t.keys.length c1) (.slice a2 t.l.length c2) ∧ Below w.heap.size w (w.alloc (.cells #[.int .i64 t.kind, .int .i64 t.n, .string ⟨t.s.toArray⟩, .slice a1 t.keys.length c1, .slice a2 t.l.length c2] 25))) := hidI ⟨heap_alloc_new w _, bel_alloc _ _⟩
  clear h hN
  go_enter Tryz.func6, Tryz.ntmps6
  obtain ⟨b0, b1, b2, b3, b4, -⟩ := K0.out.1.c
  go_wp2_with fail
  refine (rgood_is _ ok t _ (by exact H.out.bel K0.out.2) HN.out).mono ?_
  rintro e w1 ⟨rfl, hb1⟩
  have K1 : Hid (BoxIs w1 w.heap.size (.int .i64 t.kind) (.int .i64 t.n) (.string ⟨t.s.toArray⟩) (.slice a1 t.keys.length c1) (.slice a2 t.l.length c2) ∧ Below w.heap.size w w1) := hidI ⟨box_bel hb1 K0.out.1, bel_trans K0.out.2 hb1⟩
  clear hb1 b0 b1 b2 b3 b4
  cases hg : goodV t with
  | false =>
    have R : Hid (printR 12 t = ([], 1)) := hidI (by simp [printR, hg])
    clear hg
    go_wp2_with fail
    refine bodyPost_ret (v := .tuple #[.string ⟨#[]⟩, .int .i64 1]) (by simp [results, Tryz.results6, go_sem] <;> rfl) rfl ?_
    exact ⟨by rw [R.out]; first | done | rfl, K1.out.2⟩
  | true =>
    have HG := hidI hg
    obtain ⟨b0, b1, b2, b3, b4, -⟩ := K1.out.1.c
    clear hg
    go_wp2_with fail
    refine (rtext_all 12 _ ok t _ (by exact H.out.bel K1.out.2) (goodV_tree HG.out) (by have := good_cnt HG.out; omega) (by have := good_short HG.out; omega)).mono ?_
    rintro e w2 ⟨rfl, hb2⟩
    have B2 := hidI (bel_trans K1.out.2 hb2)
    clear hb2 b0 b1 b2 b3 b4
    have hl : (printS 12 t).length ≤ 120000 := good_short HG.out
    unfold str
    by_cases h2 : (printS 12 t).length ≤ 2000
    · have g1 : ¬ (2000 : Int) < ((printS 12 t).length : Int) := by omega
      have R : Hid (printR 12 t = (printS 12 t, 0)) := hidI (by simp [printR, HG.out, h2])
      clear h2
      go_wp2_with fail
      refine bodyPost_ret (v := .tuple #[.string ⟨(printS 12 t).toArray⟩, .int .i64 0]) (by simp [results, Tryz.results6, go_sem] <;> rfl) rfl ?_
      exact ⟨by rw [R.out]; first | done | rfl, B2.out⟩
    · have g1 : (2000 : Int) < ((printS 12 t).length : Int) := by omega
      have R : Hid (printR 12 t = ([], 2)) := hidI (by simp [printR, HG.out, h2])
      clear h2
      go_wp2_with fail
      refine bodyPost_ret (v := .tuple #[.string ⟨#[]⟩, .int .i64 2]) (by simp [results, Tryz.results6, go_sem] <;> rfl) rfl ?_
      exact ⟨by rw [R.out]; first | done | rfl, B2.out⟩
set_option maxRecDepth 100000 in
set_option maxHeartbeats 4000000 in
theorem rcount_is (w : World) (ok : Nat → Prop) (t : V) (v : Value) (h : In w ok t v) (hN : cnt t ≤ 1000000000000000) :
    Calls Tryz.prog 10 #[v] w fun e w' => e = .returned (.int .i64 (cnt t)) ∧ Below w.heap.size w w' := by
  have H := hidI h
  have HN := hidI hN
  obtain ⟨a1, a2, c1, c2, rfl⟩ := h.form
  have K0 : Hid (BoxIs (w.alloc (.cells #[.int .i64 t.kind, .int .i64 t.n, .string ⟨t.s.toArray⟩, .slice a1 t.keys.length c1, .slice a2 t.l.length c2] 25)) w.heap.size (.int .i64 t.kind) (.int .i64 t.n) (.string ⟨t.s.toArray⟩) (.slice a1 t.keys.length c1) (.slice a2 t.l.length c2) ∧ Below w.heap.size w (w.alloc (.cells #[.int .i64 t.kind, .int .i64 t.n, .string ⟨t.s.toArray⟩, .slice a1 t.keys.length c1, .slice a2 t.l.length c2] 25))) := hidI ⟨heap_alloc_new w _, bel_alloc _ _⟩
  clear h hN
  go_enter Tryz.func10, Tryz.ntmps10
  obtain ⟨b0, b1, b2, b3, b4, -⟩ := K0.out.1.c
  go_wp2_with fail
  refine (depthOf_is _ ok t _ (by exact H.out.bel K0.out.2) HN.out).mono ?_
  rintro e w1 ⟨rfl, hb1⟩
  have B1 := hidI (bel_trans K0.out.2 hb1)
  clear hb1 b0 b1 b2 b3 b4
  go_wp2_with fail
  go_ret
  exact ⟨rfl, B1.out⟩
end Go.Proofs.YtkboplcffailoaaGreatDoor

/- What JoinPath of package stairwellref does. -/
import Derived.Test.YtfbddgpekbhpfabDoorWa
import Derived.Test.YtfbddgpekbhpfabDoorGFo
/- What SplitPath of the reference makes of a path, byte by byte, plainly. -/
set_option linter.unusedSimpArgs false
set_option linter.unusedVariables false
namespace Go.Proofs.YtfbddgpekbhpfabDoor
open Go.Lib (index count replaceK replaceAll split splitK)
/- What SplitPath of the reference does, byte by byte: behind the first sign, with the name that is under way and those that are done. -/
def spS : List UInt8 → List UInt8 → List (List UInt8) → Option (List (List UInt8))
  | [], now, l => some (l ++ [now])
  | c :: r, now, l =>
    if c = 47 then spS r [] (l ++ [now])
    else if c ≠ 126 then spS r (now ++ [c]) l
    else match r with
      | [] => none
      | d :: r' => if d = 48 then spS r' (now ++ [126]) l else if d = 49 then spS r' (now ++ [47]) l else none
theorem sp_slash (r now : List UInt8) (l : List (List UInt8)) : spS (47 :: r) now l = spS r [] (l ++ [now]) := by rw [spS.eq_def]; simp
theorem sp_char {c : UInt8} (h1 : c ≠ 47) (h2 : c ≠ 126) (r now : List UInt8) (l : List (List UInt8)) : spS (c :: r) now l = spS r (now ++ [c]) l := by rw [spS.eq_def]; simp [h1, h2]
theorem sp_m0 (r now : List UInt8) (l : List (List UInt8)) : spS (126 :: 48 :: r) now l = spS r (now ++ [126]) l := by rw [spS.eq_def]; simp
theorem sp_m1 (r now : List UInt8) (l : List (List UInt8)) : spS (126 :: 49 :: r) now l = spS r (now ++ [47]) l := by rw [spS.eq_def]; simp
theorem sp_end (now : List UInt8) (l : List (List UInt8)) : spS [126] now l = none := by rw [spS.eq_def]; simp
theorem sp_bad {d : UInt8} (h1 : d ≠ 48) (h2 : d ≠ 49) (r now : List UInt8) (l : List (List UInt8)) : spS (126 :: d :: r) now l = none := by rw [spS.eq_def]; simp [h1, h2]
theorem sp_nil (now : List UInt8) (l : List (List UInt8)) : spS [] now l = some (l ++ [now]) := by rw [spS.eq_def]
theorem sp_esc (m rest : List UInt8) : ∀ (now : List UInt8) (l : List (List UInt8)), spS (m.flatMap escP ++ rest) now l = spS rest (now ++ m) l := by
  induction m with
  | nil => intro now l; simp
  | cons c m ih =>
    intro now l
    rw [List.flatMap_cons, List.append_assoc]
    by_cases h1 : c = 126
    · subst h1
      rw [show escP 126 = [126, 48] from rfl, List.cons_append, List.cons_append, List.nil_append, sp_m0, ih]; simp
    · by_cases h2 : c = 47
      · subst h2
        rw [show escP 47 = [126, 49] from rfl, List.cons_append, List.cons_append, List.nil_append, sp_m1, ih]; simp
      · rw [show escP c = [c] by simp [escP, h1, h2], List.cons_append, List.nil_append, sp_char h2 h1, ih]; simp
theorem sp_none (n : Nat) : ∀ (r now : List UInt8) (l : List (List UInt8)), r.length ≤ n → (spS r now l = none ↔ wholeP r = false) := by
  induction n with
  | zero =>
    intro r now l h
    cases r with
    | nil => simp [sp_nil, wholeP]
    | cons c r => simp at h
  | succ n ih =>
    intro r now l h
    cases r with
    | nil => simp [sp_nil, wholeP]
    | cons c r =>
      simp only [List.length_cons] at h
      by_cases h1 : c = 47
      · subst h1
        rw [sp_slash, ih r _ _ (by omega), whole_cons 47 r (by decide)]
      · by_cases h2 : c = 126
        · subst h2
          cases r with
          | nil => simp [sp_end, wholeP]
          | cons d r =>
            simp only [List.length_cons] at h
            rw [whole_mark]
            by_cases h3 : d = 48
            · subst h3; rw [sp_m0, ih r _ _ (by omega)]; simp
            · by_cases h4 : d = 49
              · subst h4; rw [sp_m1, ih r _ _ (by omega)]; simp
              · rw [sp_bad h3 h4]; simp [h3, h4]
        · rw [sp_char h1 h2, ih r _ _ (by omega), whole_cons c r h2]
theorem sp_parts : ∀ (xs : List (List UInt8)) (x now : List UInt8) (l : List (List UInt8)), spS (glue 47 ((x :: xs).map fun m => m.flatMap escP)) now l = some (l ++ (now ++ x) :: xs)
  | [], x, now, l => by
    have := sp_esc x [] now l
    simp only [List.map_cons, List.map_nil, glue, List.flatMap_nil]
    rw [this, sp_nil]
  | y :: ys, x, now, l => by
    have h := sp_esc x (47 :: glue 47 ((y :: ys).map fun m => m.flatMap escP)) now l
    have e : glue 47 ((x :: y :: ys).map fun m => m.flatMap escP) = x.flatMap escP ++ 47 :: glue 47 ((y :: ys).map fun m => m.flatMap escP) := by simp [glue]
    rw [e, h, sp_slash, sp_parts ys y [] (l ++ [now ++ x])]
    simp
theorem whole_split (r : List UInt8) (h : wholeP r = true) : ∃ (x : List UInt8) (xs : List (List UInt8)), split r [47] = (x :: xs).map (fun m => m.flatMap escP) := by
  have hne := split_ne 47 r
  have hfree := split_free 47 r
  have hg := glue_split 47 r
  cases hs : split r [47] with
  | nil => exact absurd hs hne
  | cons y ys =>
    rw [hs] at hfree hg
    have hw := whole_parts y ys (by rw [hg]; exact h)
    have all : ∀ (zs : List (List UInt8)), (∀ z ∈ zs, 47 ∉ z ∧ wholeP z = true) → ∃ ms : List (List UInt8), zs = ms.map (fun m => m.flatMap escP) := by
      intro zs
      induction zs with
      | nil => intro _; exact ⟨[], rfl⟩
      | cons z zs ih =>
        intro hz
        obtain ⟨ms, hms⟩ := ih fun w hw => hz w (by simp [hw])
        obtain ⟨m, hm⟩ := whole_made z.length z (Nat.le_refl _) (hz z (by simp)).2 (hz z (by simp)).1
        exact ⟨m :: ms, by rw [List.map_cons, hms, hm]⟩
    obtain ⟨ms, hms⟩ := all (y :: ys) fun z hz => ⟨hfree z hz, hw z hz⟩
    cases ms with
    | nil => simp at hms
    | cons m ms => exact ⟨m, ms, hms⟩
theorem sp_split (r : List UInt8) : spS r [] [] = if wholeP r then some ((split r [47]).map unmarkedL) else none := by
  by_cases h : wholeP r = true
  · rw [if_pos h]
    obtain ⟨x, xs, e⟩ := whole_split r h
    have hg := glue_split 47 r
    have h1 := sp_parts xs x [] []
    rw [← e, hg] at h1
    rw [h1, e]
    simp [List.map_map, Function.comp_def, unmarked_marked]
  · have h' : wholeP r = false := by simpa using h
    rw [if_neg h]
    exact (sp_none r.length r [] [] (Nat.le_refl _)).2 h'
end Go.Proofs.YtfbddgpekbhpfabDoor

/- What SplitPath of package stairwellref does. -/
set_option linter.unusedSimpArgs false
set_option linter.unusedVariables false
namespace Go.Proofs.YtfbddgpekbhpfabDoor
open Go.RowKit

/- So far: the names that are done, the one that is under way. -/
def SP (w : World) (p : List UInt8) (k : Nat) (now : List UInt8) (l : List (List UInt8)) (lv : Value) (wr : World) : Prop :=
  wr.ownsRow w.heap.size 9 1 lv l.length (l.map str) ∧ Below w.heap.size w wr ∧ now.length ≤ 2 * k ∧ l.length ≤ k ∧ (∀ x ∈ l, x.length ≤ 2 * k) ∧ spS (p.drop k) now l = spS (p.drop 1) [] []
theorem SP.form {w wr : World} {p now : List UInt8} {k : Nat} {l : List (List UInt8)} {lv : Value} (h : SP w p k now l lv wr) : ∃ a c, lv = .slice a l.length c := by
  rcases h.1.2 with ⟨h1, h2⟩ | ⟨g, cap, cur, h1, -⟩
  · exact ⟨none, 0, by rw [h1, h2]⟩
  · exact ⟨_, _, h1⟩
theorem SP.next {w wr : World} {p now now' : List UInt8} {k j : Nat} {l : List (List UInt8)} {lv : Value} (h : SP w p k now l lv wr) (hj : k ≤ j) (hn : now'.length ≤ 2 * j) (hs : spS (p.drop j) now' l = spS (p.drop k) now l) : SP w p j now' l lv wr :=
  ⟨h.1, h.2.1, hn, by have := h.2.2.2.1; omega, fun x hx => by have := h.2.2.2.2.1 x hx; omega, hs.trans h.2.2.2.2.2⟩
theorem SP.push {w wr W' : World} {p now : List UInt8} {k g cap : Nat} {l : List (List UInt8)} {lv : Value} (h : SP w p k now l lv wr) (ho : W'.ownsRow w.heap.size 9 1 (.slice (some ⟨g, 0, none⟩) (l.length + 1) cap) (l.length + 1) (l.map str ++ [.string ⟨now.toArray⟩])) (hg : (wr.alloc (.cells #[.string ⟨now.toArray⟩] 9)).grownBy W' lv.ownBlock) :
    W'.ownsRow w.heap.size 9 1 (.slice (some ⟨g, 0, none⟩) (l ++ [now]).length cap) (l ++ [now]).length ((l ++ [now]).map str) ∧ Below w.heap.size w W' := by
  refine ⟨by simpa [str] using ho, ?_⟩
  refine gb_far (bel_trans h.2.1 (bel_alloc _ _)) hg fun g' e => ?_
  have := h.1.lt g' e
  omega
theorem cat_byte (a : List UInt8) (c : UInt8) : ByteArray.mk a.toArray ++ ByteArray.mk #[c] = ByteArray.mk (a ++ [c]).toArray := by
  have h : (ByteArray.mk a.toArray ++ ByteArray.mk #[c]).data.toList = a ++ [c] := by simp [ByteArray.data_append]
  have e : (ByteArray.mk a.toArray ++ ByteArray.mk #[c]).data = (a ++ [c]).toArray := by rw [← Array.toList_inj, h]
  cases hx : ByteArray.mk a.toArray ++ ByteArray.mk #[c] with
  | mk d => rw [hx] at e; simp only at e; rw [e]
theorem cut_byte (p : List UInt8) (k : Nat) (h : k < p.length) : (ByteArray.mk p.toArray).extract k (k + 1) = ByteArray.mk #[p[k]] := by
  have e : ((ByteArray.mk p.toArray).extract k (k + 1)).data = #[p[k]] := by
    rw [ByteArray.data_extract]
    rw [← Array.toList_inj]
    simp only [Array.toList_extract, List.extract_eq_take_drop, Nat.add_sub_cancel_left]
    rw [List.drop_eq_getElem_cons h]
    rfl
  cases hx : (ByteArray.mk p.toArray).extract k (k + 1) with
  | mk d => rw [hx] at e; simp only at e; rw [e]

set_option maxRecDepth 100000 in
set_option maxHeartbeats 8000000 in
theorem rsplit_at (w : World) (c : UInt8) (r : List UInt8) (hc : c = 47) (hp : (c :: r).length ≤ 2000) :
    Calls Tryd.prog 16 #[str (c :: r)] w fun e w' => ∃ v, e = .returned (.tuple #[v, .int .i64 (splitP (c :: r)).2]) ∧ Below w.heap.size w w' ∧ StrsAre w' (fun k => w.heap.size ≤ k) (splitP (c :: r)).1 v := by
  have HSP : Hid (splitP (c :: r) = match spS r [] [] with | none => ([], 1) | some l => (l, 0)) := hidI (by
    rw [sp_split]
    unfold splitP
    simp only
    rw [hc, whole_cons 47 r (by decide)]
    cases hw : wholeP r with
    | true => rw [if_neg (by simp only [List.length_cons] at hp ⊢; simp; omega)]; simp
    | false => rw [if_pos (by simp)]; simp)
  obtain ⟨p, hpd⟩ : ∃ p, c :: r = p := ⟨_, rfl⟩
  have HR1 : Hid (p.drop 1 = r) := hidI (by rw [← hpd]; rfl)
  have hne : p.isEmpty = false := by rw [← hpd]; rfl
  have hlen0 : 0 < p.length := by rw [← hpd]; simp
  have hz : p[0] = 47 := by simp only [← hpd]; exact hc
  rw [hpd] at hp HSP ⊢
  have HP := hidI hpd
  clear hpd hc
  unfold str
  have hsz : 0 < (ByteArray.mk p.toArray).size := by rw [ba_size]; exact hlen0
  have hget : (ByteArray.mk p.toArray)[0] = p[0] := rfl
  have n1 : ((p[0].toNat : Int) != 47) = false := by rw [hz]; rfl
  have q1 : ((p[0].toNat : Int) == 47) = true := by rw [hz]; rfl
  have hbyte : (p[0].toNat : Int) < 256 := by have := p[0].toNat_lt; omega
  have e0 : ¬ (2000 < (p.length : Int)) := by omega
  clear hz
  go_enter Tryd.func16, Tryd.ntmps16
  go_wp2_with fail
  clear n1 q1 hget hbyte e0
  go_loopg [4, 5, 6] (p.length - 1) (fun gk lv nv iv wr => ∃ (k : Nat) (now : List UInt8) (l : List (List UInt8)) (a : Option Addr) (c : Nat), 1 ≤ k ∧ k ≤ p.length ∧ gk = p.length - k ∧ lv = .slice a l.length c ∧ nv = .string ⟨now.toArray⟩ ∧ iv = .int .i64 k ∧ SP w p k now l (.slice a l.length c) wr)
  case atStart => exact ⟨1, [], [], none, 0, Nat.le_refl _, hlen0, rfl, rfl, rfl, rfl, World.ownsRow_nil _ _ _ _, Below.refl _ _, by simp, by simp, by simp, rfl⟩
  case round =>
    obtain ⟨k, now, l, a, c', h1k, hk, hgk, rfl, rfl, rfl, hI⟩ := hrel
    have GK := hidI hgk
    have I := hidI hI
    have hnow : now.length ≤ 4000 := by have := hI.2.2.1; omega
    have hll : l.length ≤ 2000 := by have := hI.2.2.2.1; omega
    clear hgk hI
    by_cases hlt : k < p.length
    · have hb : (p[k].toNat : Int) < 256 := by have := p[k].toNat_lt; omega
      have hszk : k < (ByteArray.mk p.toArray).size := by rw [ba_size]; exact hlt
      have hgetk : (ByteArray.mk p.toArray)[k] = p[k] := rfl
      have HDR : Hid (p.drop k = p[k] :: p.drop (k + 1)) := hidI (List.drop_eq_getElem_cons hlt)
      have w1 : (0 : Int) ≤ (k : Int) := by omega
      have w2 : (k : Int) < (p.length : Int) := by omega
      by_cases h47 : p[k] = 47
      · have m1 : ((p[k].toNat : Int) != 47) = false := by rw [h47]; rfl
        have m2 : ((p[k].toNat : Int) == 47) = true := by rw [h47]; rfl
        obtain ⟨g, cap, W', hR, ho, hg, -⟩ := run_pushS (W := wr.alloc (.cells #[.string ⟨now.toArray⟩] 9)) (B := w.heap.size) (v := .slice a l.length c') (n := l.length) (cs := l.map str) (nb := wr.heap.size) (k := ⟨now.toArray⟩) (own_bel I.out.1 (bel_alloc _ _)) (heap_alloc_new _ _) (by omega) (Nat.le_trans I.out.2.1.size (bel_alloc wr _).size) 22
        have HR := hidI hR
        obtain ⟨o1, o2⟩ := I.out.push ho hg
        have FIN : Hid (SP w p (k + 1) [] (l ++ [now]) (.slice (some ⟨g, 0, none⟩) (l ++ [now]).length cap) W') := hidI ⟨o1, o2, by simp, by simp; have := I.out.2.2.2.1; omega, by
          intro x hx
          rcases List.mem_append.1 hx with h | h
          · have := I.out.2.2.2.2.1 x h; omega
          · rw [List.mem_singleton] at h; have := I.out.2.2.1; rw [h]; omega, by rw [← I.out.2.2.2.2.2, HDR.out, h47, sp_slash]⟩
        clear h47 hR ho hg o1 o2
        go_wp2_with (at_builtin; go_must (refine Lib.wpList_append_run _ rfl _ _ _ _ rfl (.slice a l.length c') (.slice (some ⟨wr.heap.size, 0, none⟩) 1 1) rfl rfl _ _ HR.out ?_); refine Hid.out ?_)
        refine hidI ?_
        go_wp2_with fail
        go_roundg (p.length - (k + 1))
        case measure => rw [GK.out]; omega
        case rel => exact ⟨k + 1, [], l ++ [now], _, _, by omega, by omega, rfl, by simp, rfl, by go_num, FIN.out⟩
      · have m0 : p[k].toNat ≠ 47 := fun e => h47 (UInt8.toNat_inj.1 e)
        have m1 : ((p[k].toNat : Int) != 47) = true := by simp only [bne_iff_ne, ne_eq]; omega
        have m2 : ((p[k].toNat : Int) == 47) = false := by rw [beq_eq_false_iff_ne]; omega
        clear m0
        by_cases h126 : p[k] = 126
        · have n1 : ((p[k].toNat : Int) != 126) = false := by rw [h126]; rfl
          have n2 : ((p[k].toNat : Int) == 126) = true := by rw [h126]; rfl
          by_cases hl2 : k + 1 < p.length
          · have w3 : (k : Int) + 1 < (p.length : Int) := by omega
            have hszj : k + 1 < (ByteArray.mk p.toArray).size := by rw [ba_size]; exact hl2
            have hgetj : (ByteArray.mk p.toArray)[k + 1] = p[k + 1] := rfl
            have HDR2 : Hid (p.drop (k + 1) = p[k + 1] :: p.drop (k + 1 + 1)) := hidI (List.drop_eq_getElem_cons hl2)
            have hbj : (p[k + 1].toNat : Int) < 256 := by have := p[k + 1].toNat_lt; omega
            by_cases h48 : p[k + 1] = 48
            · have x1 : ((p[k + 1].toNat : Int) != 48) = false := by rw [h48]; rfl
              have x2 : ((p[k + 1].toNat : Int) == 48) = true := by rw [h48]; rfl
              have CAT : Hid (ByteArray.mk now.toArray ++ ByteArray.mk #[126] = ByteArray.mk (now ++ [126]).toArray) := hidI (cat_byte now 126)
              have FIN : Hid (SP w p (k + 2) (now ++ [126]) l (.slice a l.length c') wr) := hidI (I.out.next (by omega) (by simp; have := I.out.2.2.1; omega) (by rw [HDR.out, HDR2.out, h126, h48, sp_m0]))
              clear h47 h126 h48
              go_wp2_with fail
              go_roundg (p.length - (k + 2))
              case measure => rw [GK.out]; omega
              case rel => exact ⟨k + 2, now ++ [126], l, a, c', by omega, by omega, rfl, rfl, by rw [← CAT.out], by go_num, FIN.out⟩
            · have x0 : p[k + 1].toNat ≠ 48 := fun e => h48 (UInt8.toNat_inj.1 e)
              have x1 : ((p[k + 1].toNat : Int) != 48) = true := by simp only [bne_iff_ne, ne_eq]; omega
              have x2 : ((p[k + 1].toNat : Int) == 48) = false := by rw [beq_eq_false_iff_ne]; omega
              clear x0
              by_cases h49 : p[k + 1] = 49
              · have y1 : ((p[k + 1].toNat : Int) != 49) = false := by rw [h49]; rfl
                have y2 : ((p[k + 1].toNat : Int) == 49) = true := by rw [h49]; rfl
                have CAT : Hid (ByteArray.mk now.toArray ++ ByteArray.mk #[47] = ByteArray.mk (now ++ [47]).toArray) := hidI (cat_byte now 47)
                have FIN : Hid (SP w p (k + 2) (now ++ [47]) l (.slice a l.length c') wr) := hidI (I.out.next (by omega) (by simp; have := I.out.2.2.1; omega) (by rw [HDR.out, HDR2.out, h126, h49, sp_m1]))
                clear h47 h126 h48 h49
                go_wp2_with fail
                go_roundg (p.length - (k + 2))
                case measure => rw [GK.out]; omega
                case rel => exact ⟨k + 2, now ++ [47], l, a, c', by omega, by omega, rfl, rfl, by rw [← CAT.out], by go_num, FIN.out⟩
              · have y0 : p[k + 1].toNat ≠ 49 := fun e => h49 (UInt8.toNat_inj.1 e)
                have y1 : ((p[k + 1].toNat : Int) != 49) = true := by simp only [bne_iff_ne, ne_eq]; omega
                have y2 : ((p[k + 1].toNat : Int) == 49) = false := by rw [beq_eq_false_iff_ne]; omega
                clear y0
                have BAD : Hid (splitP p = ([], 1)) := hidI (by rw [HSP.out, ← HR1.out, ← I.out.2.2.2.2.2, HDR.out, HDR2.out, h126, sp_bad h48 h49])
                clear h47 h126 h48 h49
                go_wp2_with fail
                refine bodyPost_ret (v := .tuple #[.slice none 0 0, .int .i64 1]) (by simp [results, Tryd.results16, go_sem] <;> rfl) rfl ?_
                exact ⟨_, by rw [BAD.out], I.out.2.1, by rw [BAD.out]; exact ⟨by simp [maxLen], .inl ⟨rfl, none, rfl⟩⟩⟩
          · have hke : k + 1 = p.length := by omega
            have w3 : ¬ (k : Int) + 1 < (p.length : Int) := by omega
            have BAD : Hid (splitP p = ([], 1)) := hidI (by rw [HSP.out, ← HR1.out, ← I.out.2.2.2.2.2, HDR.out, h126, List.drop_eq_nil_of_le (by omega), sp_end])
            clear h47 h126 hke
            go_wp2_with fail
            refine bodyPost_ret (v := .tuple #[.slice none 0 0, .int .i64 1]) (by simp [results, Tryd.results16, go_sem] <;> rfl) rfl ?_
            exact ⟨_, by rw [BAD.out], I.out.2.1, by rw [BAD.out]; exact ⟨by simp [maxLen], .inl ⟨rfl, none, rfl⟩⟩⟩
        · have n0 : p[k].toNat ≠ 126 := fun e => h126 (UInt8.toNat_inj.1 e)
          have n1 : ((p[k].toNat : Int) != 126) = true := by simp only [bne_iff_ne, ne_eq]; omega
          have n2 : ((p[k].toNat : Int) == 126) = false := by rw [beq_eq_false_iff_ne]; omega
          clear n0
          have CAT : Hid (ByteArray.mk now.toArray ++ (ByteArray.mk p.toArray).extract k (k + 1) = ByteArray.mk (now ++ [p[k]]).toArray) := hidI (by rw [cut_byte p k hlt, cat_byte])
          have FIN : Hid (SP w p (k + 1) (now ++ [p[k]]) l (.slice a l.length c') wr) := hidI (I.out.next (by omega) (by simp; have := I.out.2.2.1; omega) (by rw [HDR.out, sp_char h47 h126]))
          have w4 : (k : Int) ≤ (k : Int) + 1 := by omega
          have w5 : (k : Int) + 1 ≤ (p.length : Int) := by omega
          have w6 : (k : Int) + 1 ≤ ((ByteArray.mk p.toArray).size : Int) := by rw [ba_size]; omega
          clear h47 h126
          go_wp2_with fail
          go_roundg (p.length - (k + 1))
          case measure => rw [GK.out]; omega
          case rel => exact ⟨k + 1, now ++ [p[k]], l, a, c', by omega, by omega, rfl, rfl, by rw [← CAT.out], by go_num, FIN.out⟩
    · have hke : k = p.length := by omega
      have d1 : ¬ (k : Int) < (p.length : Int) := by omega
      obtain ⟨g, cap, W', hR, ho, hg, -⟩ := run_pushS (W := wr.alloc (.cells #[.string ⟨now.toArray⟩] 9)) (B := w.heap.size) (v := .slice a l.length c') (n := l.length) (cs := l.map str) (nb := wr.heap.size) (k := ⟨now.toArray⟩) (own_bel I.out.1 (bel_alloc _ _)) (heap_alloc_new _ _) (by omega) (Nat.le_trans I.out.2.1.size (bel_alloc wr _).size) 22
      have HR := hidI hR
      obtain ⟨o1, o2⟩ := I.out.push ho hg
      have OK : Hid (splitP p = (l ++ [now], 0)) := hidI (by rw [HSP.out, ← HR1.out, ← I.out.2.2.2.2.2, hke, List.drop_length, sp_nil])
      have FIN : Hid (StrsAre W' (fun k => w.heap.size ≤ k) (l ++ [now]) (.slice (some ⟨g, 0, none⟩) (l.length + 1) cap) ∧ Below w.heap.size w W') := hidI ⟨own_strs (n := (l ++ [now]).length) rfl (by simpa using o1) (by
        intro x hx
        unfold maxLen
        rcases List.mem_append.1 hx with h | h
        · have := I.out.2.2.2.2.1 x h; omega
        · rw [List.mem_singleton] at h; rw [h]; omega) (fun _ h => h) (by simp; unfold maxLen; omega), o2⟩
      clear hke hR ho hg o1 o2
      go_wp2_with (at_builtin; go_must (refine Lib.wpList_append_run _ rfl _ _ _ _ rfl (.slice a l.length c') (.slice (some ⟨wr.heap.size, 0, none⟩) 1 1) rfl rfl _ _ HR.out ?_); refine Hid.out ?_)
      refine hidI ?_
      go_wp2_with fail
      refine bodyPost_ret (v := .tuple #[.slice (some ⟨g, 0, none⟩) (l.length + 1) cap, .int .i64 0]) (by simp [results, Tryd.results16, go_sem] <;> rfl) rfl ?_
      exact ⟨_, by rw [OK.out], FIN.out.2, by rw [OK.out]; exact FIN.out.1⟩
set_option maxRecDepth 100000 in
set_option maxHeartbeats 4000000 in
theorem rsplit_bad (w : World) (c : UInt8) (r : List UInt8) (hl : r.length + 1 ≤ 140737488351232) (hb : c ≠ 47 ∨ 2000 < (c :: r).length) :
    Calls Tryd.prog 16 #[str (c :: r)] w fun e w' => e = .returned (.tuple #[.slice none 0 0, .int .i64 1]) ∧ Below w.heap.size w w' := by
  unfold str
  have hne : (ByteArray.mk (c :: r).toArray == ByteArray.mk #[]) = false := ba_ne (by simp)
  have hsz : 0 < (ByteArray.mk (c :: r).toArray).size := by rw [ba_size]; simp
  have hget : (ByteArray.mk (c :: r).toArray)[0] = c := rfl
  have hbyte : (c.toNat : Int) < 256 := by have := c.toNat_lt; omega
  by_cases hc : c = 47
  · have n1 : ((c.toNat : Int) != 47) = false := by rw [hc]; rfl
    have q1 : ((c.toNat : Int) == 47) = true := by rw [hc]; rfl
    have e0 : 2000 < (r.length : Int) + 1 := by
      rcases hb with h | h
      · exact absurd hc h
      · simp only [List.length_cons] at h; omega
    clear hc hb
    go_enter Tryd.func16, Tryd.ntmps16
    go_wp2_with fail
    refine bodyPost_ret (v := .tuple #[.slice none 0 0, .int .i64 1]) (by simp [results, Tryd.results16, go_sem] <;> rfl) rfl ?_
    exact ⟨rfl, Below.refl _ _⟩
  · have n1 : ((c.toNat : Int) != 47) = true := by
      have : c.toNat ≠ 47 := fun e => hc (UInt8.toNat_inj.1 e)
      simp only [bne_iff_ne, ne_eq]; omega
    have q1 : ((c.toNat : Int) == 47) = false := by
      have : c.toNat ≠ 47 := fun e => hc (UInt8.toNat_inj.1 e)
      rw [beq_eq_false_iff_ne]; omega
    clear hc hb
    go_enter Tryd.func16, Tryd.ntmps16
    go_wp2_with fail
    refine bodyPost_ret (v := .tuple #[.slice none 0 0, .int .i64 1]) (by simp [results, Tryd.results16, go_sem] <;> rfl) rfl ?_
    exact ⟨rfl, Below.refl _ _⟩
set_option maxRecDepth 100000 in
set_option maxHeartbeats 4000000 in
theorem rsplit_nil (w : World) : Calls Tryd.prog 16 #[str []] w fun e w' => e = .returned (.tuple #[.slice none 0 0, .int .i64 0]) ∧ Below w.heap.size w w' := by
  unfold str
  go_enter Tryd.func16, Tryd.ntmps16
  go_wp2_with fail
  refine bodyPost_ret (v := .tuple #[.slice none 0 0, .int .i64 0]) (by simp [results, Tryd.results16, go_sem] <;> rfl) rfl ?_
  exact ⟨rfl, Below.refl _ _⟩
theorem rsplit_is (w : World) (p : List UInt8) (hp : p.length ≤ 140737488351232) :
    Calls Tryd.prog 16 #[str p] w fun e w' => ∃ v, e = .returned (.tuple #[v, .int .i64 (splitP p).2]) ∧ Below w.heap.size w w' ∧ StrsAre w' (fun k => w.heap.size ≤ k) (splitP p).1 v := by
  cases p with
  | nil =>
    refine (rsplit_nil w).mono ?_
    rintro e w' ⟨rfl, hb⟩
    exact ⟨_, rfl, hb, ⟨by simp [maxLen, splitP], .inl ⟨rfl, none, rfl⟩⟩⟩
  | cons c r =>
    by_cases h : c = 47 ∧ (c :: r).length ≤ 2000
    · exact rsplit_at w c r h.1 h.2
    · have hb : c ≠ 47 ∨ 2000 < (c :: r).length := by
        by_cases h1 : c = 47
        · exact .inr (Nat.lt_of_not_le fun h2 => h ⟨h1, h2⟩)
        · exact .inl h1
      have e : splitP (c :: r) = ([], 1) := by
        unfold splitP
        simp only
        rw [if_pos (by rcases hb with h | h; exact (by simp [h]); simp; exact .inr (.inl (by simpa using h)))]
      refine (rsplit_bad w c r (by simpa using hp) hb).mono ?_
      rintro e' w' ⟨rfl, hb'⟩
      exact ⟨_, by rw [e], hb', by rw [e]; exact ⟨by simp [maxLen], .inl ⟨rfl, none, rfl⟩⟩⟩
end Go.Proofs.YtfbddgpekbhpfabDoor

set_option linter.unusedSimpArgs false
set_option linter.unusedVariables false
namespace Go.Proofs.YtfbddgpekbhpfabDoor
open Go.RowKit

theorem cat_bytes (a b : List UInt8) (B : Array UInt8) (h : B.toList = b) : ByteArray.mk a.toArray ++ ByteArray.mk B = ByteArray.mk (a ++ b).toArray := by
  subst h
  have h : (ByteArray.mk a.toArray ++ ByteArray.mk B).data.toList = a ++ B.toList := by simp [ByteArray.data_append]
  have e : (ByteArray.mk a.toArray ++ ByteArray.mk B).data = (a ++ B.toList).toArray := by rw [← Array.toList_inj, h]
  cases hx : ByteArray.mk a.toArray ++ ByteArray.mk B with
  | mk d => rw [hx] at e; simp only at e; rw [e]
theorem join_snoc {l : List (List UInt8)} {k : Nat} (h : k < l.length) : joinP (l.take (k + 1)) = joinP (l.take k) ++ 47 :: l[k].flatMap escP := by
  unfold joinP
  rw [List.take_add_one, List.getElem?_eq_getElem h, List.flatMap_append]
  simp [marked_eq]
theorem esc_snoc {x : List UInt8} {m : Nat} (h : m < x.length) : (x.take (m + 1)).flatMap escP = (x.take m).flatMap escP ++ escP x[m] := by
  rw [List.take_add_one, List.getElem?_eq_getElem h, List.flatMap_append]
  simp
theorem join_len (l : List (List UInt8)) (k : Nat) : (joinP (l.take k)).length ≤ (joinP l).length := by
  have : joinP l = joinP (l.take k) ++ joinP (l.drop k) := by
    unfold joinP
    rw [← List.flatMap_append, List.take_append_drop]
  rw [this, List.length_append]; omega
theorem esc_part (x : List UInt8) (m : Nat) : ((x.take m).flatMap escP).length ≤ (x.flatMap escP).length := by
  have : x.flatMap escP = (x.take m).flatMap escP ++ (x.drop m).flatMap escP := by rw [← List.flatMap_append, List.take_append_drop]
  rw [this, List.length_append]; omega
set_option maxRecDepth 100000 in
set_option maxHeartbeats 8000000 in
theorem rjoin_is (w : World) (ok : Nat → Prop) (l : List (List UInt8)) (v : Value) (hl : StrsAre w ok l v) (hj : (joinP l).length ≤ 10000000) :
    Calls Tryd.prog 19 #[v] w fun e w' => e = .returned (str (joinP l)) ∧ Below w.heap.size w w' := by
  obtain ⟨a1, c1, rfl⟩ := hl.form
  have HL := hidI hl
  have hl1 := hl.1
  unfold maxLen at hl1
  clear hl
  unfold str
  go_enter Tryd.func19, Tryd.ntmps19
  go_wp2_with fail
  go_loopg [3, 9] l.length (fun gk s i wr => ∃ k : Nat, k ≤ l.length ∧ gk = l.length - k ∧ i = .int .i64 k ∧ s = .string ⟨(joinP (l.take k)).toArray⟩ ∧ Below w.heap.size w wr)
  case atStart => exact ⟨0, Nat.zero_le _, rfl, rfl, rfl, Below.refl _ _⟩
  case round =>
    obtain ⟨k, hk, hgk, rfl, rfl, hbl⟩ := hrel
    have GK := hidI hgk
    have BL := hidI hbl
    clear hgk hbl
    by_cases hlt : k < l.length
    · obtain ⟨kb, ko, rfl, hc1, hc2, hc⟩ := strs_at HL.out hlt
      have c9 := cell_bel BL.out hc
      unfold maxLen at hc2
      have w1 : (0 : Int) ≤ (k : Int) := by omega
      have w2 : (k : Int) < (l.length : Int) := by omega
      obtain ⟨x, hx⟩ : ∃ x, l[k] = x := ⟨_, rfl⟩
      have HX := hidI hx
      have JS : Hid (joinP (l.take (k + 1)) = joinP (l.take k) ++ 47 :: x.flatMap escP) := hidI (by rw [join_snoc hlt, hx])
      have JL : Hid ((joinP (l.take k)).length + 1 + (x.flatMap escP).length ≤ 10000000) := hidI (by
        have h1 := join_len l (k + 1)
        rw [JS.out] at h1
        simp only [List.length_append, List.length_cons] at h1
        omega)
      rw [hx] at c9
      obtain ⟨s, hs⟩ : ∃ s, joinP (l.take k) = s := ⟨_, rfl⟩
      rw [hs]
      rw [hs] at JS JL
      have CAT : Hid (ByteArray.mk s.toArray ++ ByteArray.mk #[47] = ByteArray.mk (s ++ [47]).toArray) := hidI (cat_bytes s [47] _ rfl)
      have xl : x.length ≤ 9223372036854775807 := by
        have h := HL.out.mem l[k] (List.getElem_mem hlt)
        unfold maxLen at h
        rw [hx] at h
        omega
      have hsl : s.length ≤ 10000000 := by have := JL.out; omega
      clear hx hs hc
      go_wp2_with fail
      go_loopg [3, 17] x.length (fun gk sv j wr' => ∃ m : Nat, m ≤ x.length ∧ gk = x.length - m ∧ j = .int .i64 m ∧ sv = .string ⟨(s ++ 47 :: (x.take m).flatMap escP).toArray⟩ ∧ Below w.heap.size w wr')
      case atStart => exact ⟨0, Nat.zero_le _, rfl, rfl, by rw [CAT.out]; simp, BL.out⟩
      case round =>
        obtain ⟨m, hm, hgm, rfl, rfl, hbm⟩ := hrel
        have GM := hidI hgm
        have BM := hidI hbm
        clear hgm hbm
        by_cases hmt : m < x.length
        · have hb : (x[m].toNat : Int) < 256 := by have := x[m].toNat_lt; omega
          have hszm : m < (ByteArray.mk x.toArray).size := by rw [ba_size]; exact hmt
          have hgetm : (ByteArray.mk x.toArray)[m] = x[m] := rfl
          have v1 : (0 : Int) ≤ (m : Int) := by omega
          have v2 : (m : Int) < (x.length : Int) := by omega
          have ES := hidI (esc_snoc hmt)
          have EL : Hid ((s ++ 47 :: (x.take m).flatMap escP).length ≤ 10000000) := hidI (by
            have h1 := esc_part x m
            have h2 := JL.out
            simp only [List.length_append, List.length_cons]
            omega)
          obtain ⟨u, hu⟩ : ∃ u, s ++ 47 :: (x.take m).flatMap escP = u := ⟨_, rfl⟩
          rw [hu] at EL ⊢
          have HU : Hid (∀ y, escP x[m] = y → s ++ 47 :: (x.take (m + 1)).flatMap escP = u ++ y) := hidI (by intro y hy; rw [ES.out, hy, ← hu]; simp)
          have hul : u.length ≤ 10000000 := EL.out
          clear hu
          by_cases h126 : x[m] = 126
          · have n1 : ((x[m].toNat : Int) != 126) = false := by rw [h126]; rfl
            have n2 : ((x[m].toNat : Int) == 126) = true := by rw [h126]; rfl
            have FIN : Hid (ByteArray.mk u.toArray ++ ByteArray.mk #[126, 48] = ByteArray.mk (s ++ 47 :: (x.take (m + 1)).flatMap escP).toArray) := hidI (by rw [HU.out [126, 48] (by rw [h126]; rfl)]; exact cat_bytes u [126, 48] _ rfl)
            clear h126
            go_wp2_with fail
            go_roundg (x.length - (m + 1))
            case measure => rw [GM.out]; omega
            case rel => exact ⟨m + 1, by omega, rfl, by go_num, by rw [FIN.out], BM.out⟩
          · have n0 : x[m].toNat ≠ 126 := fun e => h126 (UInt8.toNat_inj.1 e)
            have n1 : ((x[m].toNat : Int) != 126) = true := by simp only [bne_iff_ne, ne_eq]; omega
            have n2 : ((x[m].toNat : Int) == 126) = false := by rw [beq_eq_false_iff_ne]; omega
            clear n0
            by_cases h47 : x[m] = 47
            · have q1 : ((x[m].toNat : Int) != 47) = false := by rw [h47]; rfl
              have q2 : ((x[m].toNat : Int) == 47) = true := by rw [h47]; rfl
              have FIN : Hid (ByteArray.mk u.toArray ++ ByteArray.mk #[126, 49] = ByteArray.mk (s ++ 47 :: (x.take (m + 1)).flatMap escP).toArray) := hidI (by rw [HU.out [126, 49] (by rw [h47]; rfl)]; exact cat_bytes u [126, 49] _ rfl)
              clear h126 h47
              go_wp2_with fail
              go_roundg (x.length - (m + 1))
              case measure => rw [GM.out]; omega
              case rel => exact ⟨m + 1, by omega, rfl, by go_num, by rw [FIN.out], BM.out⟩
            · have q0 : x[m].toNat ≠ 47 := fun e => h47 (UInt8.toNat_inj.1 e)
              have q1 : ((x[m].toNat : Int) != 47) = true := by simp only [bne_iff_ne, ne_eq]; omega
              have q2 : ((x[m].toNat : Int) == 47) = false := by rw [beq_eq_false_iff_ne]; omega
              clear q0
              have FIN : Hid (ByteArray.mk u.toArray ++ (ByteArray.mk x.toArray).extract m (m + 1) = ByteArray.mk (s ++ 47 :: (x.take (m + 1)).flatMap escP).toArray) := hidI (by rw [HU.out [x[m]] (by simp [escP, h126, h47]), cut_byte x m hmt]; exact cat_bytes u [x[m]] _ rfl)
              have w4 : (m : Int) ≤ (m : Int) + 1 := by omega
              have w5 : (m : Int) + 1 ≤ (x.length : Int) := by omega
              have w6 : (m : Int) + 1 ≤ ((ByteArray.mk x.toArray).size : Int) := by rw [ba_size]; omega
              clear h126 h47
              go_wp2_with fail
              go_roundg (x.length - (m + 1))
              case measure => rw [GM.out]; omega
              case rel => exact ⟨m + 1, by omega, rfl, by go_num, by rw [FIN.out], BM.out⟩
        · have hme : m = x.length := by omega
          have d1 : ¬ (m : Int) < (x.length : Int) := by omega
          have FIN : Hid (s ++ 47 :: (x.take m).flatMap escP = joinP (l.take (k + 1))) := hidI (by rw [JS.out, hme, List.take_of_length_le (Nat.le_refl _)])
          rw [FIN.out]
          clear hme
          go_wp2_with fail
          go_roundg (l.length - (k + 1))
          case measure => rw [GK.out]; omega
          case rel => exact ⟨k + 1, by omega, rfl, by go_num, rfl, BM.out⟩
    · have hke : k = l.length := by omega
      have d1 : ¬ (k : Int) < (l.length : Int) := by omega
      have FIN : Hid (joinP (l.take k) = joinP l) := hidI (by rw [hke, List.take_of_length_le (Nat.le_refl _)])
      rw [FIN.out]
      clear hke
      go_wp2_with fail
      go_ret
      exact ⟨rfl, BL.out⟩
end Go.Proofs.YtfbddgpekbhpfabDoor

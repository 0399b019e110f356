/- What Read of package patch does. -/
import Derived.Test.YtaifciobaapehaaDoorXp
import Derived.Test.YtaifciobaapehaaDoorWa
import Derived.Test.YtaifciobaapehaaDoorXa
import Derived.Test.YtaifciobaapehaaDoorKx
import Derived.Laws.MakeOwn
/- Operations of a patch, plainly; and in memory. -/
set_option linter.unusedSimpArgs false
set_option linter.unusedVariables false
namespace Go.Proofs.YtaifciobaapehaaDoor
open Go.RowKit

structure OpT where
  kind : Int
  path : List UInt8
  frm : List UInt8
  value : V
def movedR (v : V) (frm dst : List UInt8) : V × Int :=
  if (getR (splitP frm) v).2 ≠ 0 then (v, (getR (splitP frm) v).2)
  else if Lib.hasPrefix dst (frm ++ [47]) = true then (v, 1)
  else if dst = frm then (v, 0)
  else if (changeR removedV (splitP frm) v).2 ≠ 0 then (v, (changeR removedV (splitP frm) v).2)
  else if (layR addedV dst (splitP dst) (changeR removedV (splitP frm) v).1 (getR (splitP frm) v).1).2 ≠ 0 then (v, (layR addedV dst (splitP dst) (changeR removedV (splitP frm) v).1 (getR (splitP frm) v).1).2)
  else ((layR addedV dst (splitP dst) (changeR removedV (splitP frm) v).1 (getR (splitP frm) v).1).1, 0)
def copiedR (v : V) (frm dst : List UInt8) : V × Int :=
  if (getR (splitP frm) v).2 ≠ 0 then (v, (getR (splitP frm) v).2) else layR addedV dst (splitP dst) v (getR (splitP frm) v).1
/- An operation in memory: eight cells. -/
def OpIn (w : World) (ok : Nat → Prop) (o : OpT) (v : Value) : Prop :=
  I64 o.kind ∧ o.path.length ≤ 140737488351232 ∧ o.frm.length ≤ 140737488351232 ∧ ∃ (a7 a8 : Option Addr) (c7 c8 : Nat),
    v = .agg #[.int .i64 o.kind, .string ⟨o.path.toArray⟩, .string ⟨o.frm.toArray⟩, .int .i64 o.value.kind, .int .i64 o.value.n, .string ⟨o.value.s.toArray⟩, .slice a7 o.value.keys.length c7, .slice a8 o.value.l.length c8] ∧
    In w ok o.value (.agg #[.int .i64 o.value.kind, .int .i64 o.value.n, .string ⟨o.value.s.toArray⟩, .slice a7 o.value.keys.length c7, .slice a8 o.value.l.length c8])
theorem OpIn.bel {w w' : World} {ok : Nat → Prop} {o : OpT} {v : Value} (h : OpIn w ok o v) (hb : Below w.heap.size w w') : OpIn w' ok o v := by
  obtain ⟨h1, h2, h3, a7, a8, c7, c8, e, hi⟩ := h
  exact ⟨h1, h2, h3, a7, a8, c7, c8, e, hi.bel hb⟩
theorem OpIn.weak {w : World} {ok ok' : Nat → Prop} {o : OpT} {v : Value} (h : OpIn w ok o v) (hk : ∀ k, ok k → ok' k) : OpIn w ok' o v := by
  obtain ⟨h1, h2, h3, a7, a8, c7, c8, e, hi⟩ := h
  exact ⟨h1, h2, h3, a7, a8, c7, c8, e, hi.weak hk⟩
theorem OpIn.low {w : World} {ok : Nat → Prop} {o : OpT} {v : Value} (h : OpIn w ok o v) : OpIn w (fun k => ok k ∧ k < w.heap.size) o v := by
  obtain ⟨h1, h2, h3, a7, a8, c7, c8, e, hi⟩ := h
  exact ⟨h1, h2, h3, a7, a8, c7, c8, e, hi.low⟩
/- A list of operations in memory. -/
def OpsAre (w : World) (ok : Nat → Prop) (os : List OpT) (v : Value) : Prop :=
  os.length ≤ 9223372036854775807 ∧ (os = [] ∧ (∃ a, v = .slice a 0 0) ∨ ∃ b off c, v = .slice (some ⟨b, off, none⟩) os.length c ∧ os.length ≤ c ∧ c ≤ 9223372036854775807 ∧
    ∀ i o, os[i]? = some o → ∃ v0 v1 v2 v3 v4 v5 v6 v7, ok b ∧ w.cell? ⟨b, off + i * 8, none⟩ = some v0 ∧ w.cell? ⟨b, off + i * 8 + 1, none⟩ = some v1 ∧ w.cell? ⟨b, off + i * 8 + 2, none⟩ = some v2 ∧ w.cell? ⟨b, off + i * 8 + 3, none⟩ = some v3 ∧
      w.cell? ⟨b, off + i * 8 + 4, none⟩ = some v4 ∧ w.cell? ⟨b, off + i * 8 + 5, none⟩ = some v5 ∧ w.cell? ⟨b, off + i * 8 + 6, none⟩ = some v6 ∧ w.cell? ⟨b, off + i * 8 + 7, none⟩ = some v7 ∧ OpIn w ok o (.agg #[v0, v1, v2, v3, v4, v5, v6, v7]))
theorem OpsAre.form {w : World} {ok : Nat → Prop} {os : List OpT} {v : Value} (h : OpsAre w ok os v) : ∃ a c, v = .slice a os.length c := by
  rcases h.2 with ⟨rfl, a, e⟩ | ⟨b, off, c, e, _⟩
  · exact ⟨a, 0, e⟩
  · exact ⟨_, c, e⟩
theorem OpsAre.bel {w w' : World} {ok : Nat → Prop} {os : List OpT} {v : Value} (h : OpsAre w ok os v) (hb : Below w.heap.size w w') : OpsAre w' ok os v := by
  refine ⟨h.1, ?_⟩
  rcases h.2 with h | ⟨b, off, c, e, h1, h2, h3⟩
  · exact .inl h
  · refine .inr ⟨b, off, c, e, h1, h2, fun i o ho => ?_⟩
    obtain ⟨v0, v1, v2, v3, v4, v5, v6, v7, hk, g0, g1, g2, g3, g4, g5, g6, g7, g8⟩ := h3 i o ho
    exact ⟨v0, v1, v2, v3, v4, v5, v6, v7, hk, cell_bel hb g0, cell_bel hb g1, cell_bel hb g2, cell_bel hb g3, cell_bel hb g4, cell_bel hb g5, cell_bel hb g6, cell_bel hb g7, g8.bel hb⟩
end Go.Proofs.YtaifciobaapehaaDoor

/- What text, kindOf and operation of package patch do. -/
set_option linter.unusedSimpArgs false
set_option linter.unusedVariables false
namespace Go.Proofs.YtaifciobaapehaaDoor
open Go.RowKit

def opB : List UInt8 := [111, 112]
def pathB : List UInt8 := [112, 97, 116, 104]
def fromB : List UInt8 := [102, 114, 111, 109]
def valueB : List UInt8 := [118, 97, 108, 117, 101]
def wordsL : List (List UInt8) := [[97, 100, 100], [114, 101, 109, 111, 118, 101], [114, 101, 112, 108, 97, 99, 101], [109, 111, 118, 101], [99, 111, 112, 121], [116, 101, 115, 116]]
def kindF (s : List UInt8) : Int := match idxL s wordsL with | some i => (i : Int) + 1 | none => 0
def textF (t : V) (key : List UInt8) : Option (List UInt8) := match memV t key with | some x => if x.kind = 3 then some x.s else none | none => none
def opF (t : V) : Option OpT :=
  match textF t opB, textF t pathB with
  | some w, some p =>
    if kindF w = 0 then none
    else if kindF w = 1 ∨ kindF w = 3 ∨ kindF w = 6 then (memV t valueB).map fun y => ⟨kindF w, p, [], y⟩
    else if kindF w = 4 ∨ kindF w = 5 then (textF t fromB).map fun f => ⟨kindF w, p, f, zeroT⟩
    else some ⟨kindF w, p, [], zeroT⟩
  | _, _ => none
theorem kind_range (s : List UInt8) : kindF s = 0 ∨ kindF s = 1 ∨ kindF s = 2 ∨ kindF s = 3 ∨ kindF s = 4 ∨ kindF s = 5 ∨ kindF s = 6 := by
  unfold kindF
  cases h : idxL s wordsL with
  | none => exact .inl rfl
  | some i =>
    have hi : i < 6 := (idxL_lt h).1
    simp only
    omega
/- The words, in memory. -/
def GlobW (w : World) : Prop := ∃ t f, w.heap[0]? = some (.cells #[.string ⟨#[97, 100, 100]⟩, .string ⟨#[114, 101, 109, 111, 118, 101]⟩, .string ⟨#[114, 101, 112, 108, 97, 99, 101]⟩, .string ⟨#[109, 111, 118, 101]⟩, .string ⟨#[99, 111, 112, 121]⟩, .string ⟨#[116, 101, 115, 116]⟩] t f)
theorem GlobW.bel {w w' : World} (h : GlobW w) (hb : Below w.heap.size w w') : GlobW w' := by
  obtain ⟨t, f, h⟩ := h
  exact ⟨t, f, (hb.block _ (Array.getElem?_eq_some_iff.1 h).1).trans h⟩
theorem idx_skip {key : List UInt8} {xs : List (List UInt8)} {k : Nat} (h : k < xs.length) (hne : xs[k] ≠ key) : (idxL key (xs.drop k)).map (· + k) = (idxL key (xs.drop (k + 1))).map (· + (k + 1)) := by
  rw [List.drop_eq_getElem_cons h, idxL, if_neg hne]
  cases idxL key (xs.drop (k + 1)) with
  | none => rfl
  | some i => simp; omega
theorem idx_here {key : List UInt8} {xs : List (List UInt8)} {k : Nat} (h : k < xs.length) (he : xs[k] = key) : (idxL key (xs.drop k)).map (· + k) = some k := by
  rw [List.drop_eq_getElem_cons h, idxL, if_pos he]
  simp
set_option maxRecDepth 100000 in
set_option maxHeartbeats 4000000 in
theorem kindOf_at (w : World) (s : List UInt8) (hG : GlobW w) : Calls Tryd.prog 59 #[str s] w fun e w' => e = .returned (.int .i64 (kindF s)) ∧ Below w.heap.size w w' := by
  obtain ⟨tt, ff, hG⟩ := hG
  have c0 : w.cell? ⟨0, 0, none⟩ = some (.string ⟨#[97, 100, 100]⟩) := by simp [World.cell?, hG]
  have c1 : w.cell? ⟨0, 1, none⟩ = some (.string ⟨#[114, 101, 109, 111, 118, 101]⟩) := by simp [World.cell?, hG]
  have c2 : w.cell? ⟨0, 2, none⟩ = some (.string ⟨#[114, 101, 112, 108, 97, 99, 101]⟩) := by simp [World.cell?, hG]
  have c3 : w.cell? ⟨0, 3, none⟩ = some (.string ⟨#[109, 111, 118, 101]⟩) := by simp [World.cell?, hG]
  have c4 : w.cell? ⟨0, 4, none⟩ = some (.string ⟨#[99, 111, 112, 121]⟩) := by simp [World.cell?, hG]
  have c5 : w.cell? ⟨0, 5, none⟩ = some (.string ⟨#[116, 101, 115, 116]⟩) := by simp [World.cell?, hG]
  clear hG
  unfold str
  go_enter Tryd.func59, Tryd.ntmps59
  go_wp2_with fail
  clear c0 c1 c2 c3 c4 c5
  have i0 : ∀ w, (Instr.index 86 (.agg #[.string ⟨#[97, 100, 100]⟩, .string ⟨#[114, 101, 109, 111, 118, 101]⟩, .string ⟨#[114, 101, 112, 108, 97, 99, 101]⟩, .string ⟨#[109, 111, 118, 101]⟩, .string ⟨#[99, 111, 112, 121]⟩, .string ⟨#[116, 101, 115, 116]⟩]) (.int .i64 0)).run Tryd.prog w = .ok (.string ⟨#[97, 100, 100]⟩) w := fun _ => by kernel_rfl
  have i1 : ∀ w, (Instr.index 86 (.agg #[.string ⟨#[97, 100, 100]⟩, .string ⟨#[114, 101, 109, 111, 118, 101]⟩, .string ⟨#[114, 101, 112, 108, 97, 99, 101]⟩, .string ⟨#[109, 111, 118, 101]⟩, .string ⟨#[99, 111, 112, 121]⟩, .string ⟨#[116, 101, 115, 116]⟩]) (.int .i64 1)).run Tryd.prog w = .ok (.string ⟨#[114, 101, 109, 111, 118, 101]⟩) w := fun _ => by kernel_rfl
  have i2 : ∀ w, (Instr.index 86 (.agg #[.string ⟨#[97, 100, 100]⟩, .string ⟨#[114, 101, 109, 111, 118, 101]⟩, .string ⟨#[114, 101, 112, 108, 97, 99, 101]⟩, .string ⟨#[109, 111, 118, 101]⟩, .string ⟨#[99, 111, 112, 121]⟩, .string ⟨#[116, 101, 115, 116]⟩]) (.int .i64 2)).run Tryd.prog w = .ok (.string ⟨#[114, 101, 112, 108, 97, 99, 101]⟩) w := fun _ => by kernel_rfl
  have i3 : ∀ w, (Instr.index 86 (.agg #[.string ⟨#[97, 100, 100]⟩, .string ⟨#[114, 101, 109, 111, 118, 101]⟩, .string ⟨#[114, 101, 112, 108, 97, 99, 101]⟩, .string ⟨#[109, 111, 118, 101]⟩, .string ⟨#[99, 111, 112, 121]⟩, .string ⟨#[116, 101, 115, 116]⟩]) (.int .i64 3)).run Tryd.prog w = .ok (.string ⟨#[109, 111, 118, 101]⟩) w := fun _ => by kernel_rfl
  have i4 : ∀ w, (Instr.index 86 (.agg #[.string ⟨#[97, 100, 100]⟩, .string ⟨#[114, 101, 109, 111, 118, 101]⟩, .string ⟨#[114, 101, 112, 108, 97, 99, 101]⟩, .string ⟨#[109, 111, 118, 101]⟩, .string ⟨#[99, 111, 112, 121]⟩, .string ⟨#[116, 101, 115, 116]⟩]) (.int .i64 4)).run Tryd.prog w = .ok (.string ⟨#[99, 111, 112, 121]⟩) w := fun _ => by kernel_rfl
  have i5 : ∀ w, (Instr.index 86 (.agg #[.string ⟨#[97, 100, 100]⟩, .string ⟨#[114, 101, 109, 111, 118, 101]⟩, .string ⟨#[114, 101, 112, 108, 97, 99, 101]⟩, .string ⟨#[109, 111, 118, 101]⟩, .string ⟨#[99, 111, 112, 121]⟩, .string ⟨#[116, 101, 115, 116]⟩]) (.int .i64 5)).run Tryd.prog w = .ok (.string ⟨#[116, 101, 115, 116]⟩) w := fun _ => by kernel_rfl
  go_loop [3, 4, 6] (fun _ _ i => ∃ k : Nat, k ≤ 6 ∧ i = .int .i64 k ∧ Hid (idxL s wordsL = (idxL s (wordsL.drop k)).map (· + k))) (fun _ _ i => 6 - (intOf i).toNat)
  case atStart => exact ⟨0, Nat.zero_le _, rfl, hidI (by simp)⟩
  case round =>
    obtain ⟨k, hk, rfl, HI⟩ := hrel
    by_cases hlt : k < 6
    · have hc : k = 0 ∨ k = 1 ∨ k = 2 ∨ k = 3 ∨ k = 4 ∨ k = 5 := by omega
      clear hk hlt
      rcases hc with rfl | rfl | rfl | rfl | rfl | rfl
      · by_cases he : ([97, 100, 100] : List UInt8) = s
        · have e3 : (([97, 100, 100] : List UInt8) == s) = true := by rw [beq_iff_eq]; exact he
          have HX : Hid (kindF s = 1) := hidI (by unfold kindF; rw [HI.out, idx_here (k := 0) (by decide) he]; rfl)
          clear he HI
          go_wp2_with fail
          go_ret
          exact ⟨by rw [HX.out]; rfl, Below.refl _ _⟩
        · have e3 : (([97, 100, 100] : List UInt8) == s) = false := by rw [beq_eq_false_iff_ne]; exact he
          have HX : Hid (idxL s wordsL = (idxL s (wordsL.drop 1)).map (· + 1)) := hidI (by rw [HI.out]; exact idx_skip (k := 0) (by decide) he)
          clear he HI
          go_wp2_with fail
          go_round
          case rel => exact ⟨1, by omega, by go_num, HX⟩
          case measure => simp [intOf]
      · by_cases he : ([114, 101, 109, 111, 118, 101] : List UInt8) = s
        · have e3 : (([114, 101, 109, 111, 118, 101] : List UInt8) == s) = true := by rw [beq_iff_eq]; exact he
          have HX : Hid (kindF s = 2) := hidI (by unfold kindF; rw [HI.out, idx_here (k := 1) (by decide) he]; rfl)
          clear he HI
          go_wp2_with fail
          go_ret
          exact ⟨by rw [HX.out]; rfl, Below.refl _ _⟩
        · have e3 : (([114, 101, 109, 111, 118, 101] : List UInt8) == s) = false := by rw [beq_eq_false_iff_ne]; exact he
          have HX : Hid (idxL s wordsL = (idxL s (wordsL.drop 2)).map (· + 2)) := hidI (by rw [HI.out]; exact idx_skip (k := 1) (by decide) he)
          clear he HI
          go_wp2_with fail
          go_round
          case rel => exact ⟨2, by omega, by go_num, HX⟩
          case measure => simp [intOf]
      · by_cases he : ([114, 101, 112, 108, 97, 99, 101] : List UInt8) = s
        · have e3 : (([114, 101, 112, 108, 97, 99, 101] : List UInt8) == s) = true := by rw [beq_iff_eq]; exact he
          have HX : Hid (kindF s = 3) := hidI (by unfold kindF; rw [HI.out, idx_here (k := 2) (by decide) he]; rfl)
          clear he HI
          go_wp2_with fail
          go_ret
          exact ⟨by rw [HX.out]; rfl, Below.refl _ _⟩
        · have e3 : (([114, 101, 112, 108, 97, 99, 101] : List UInt8) == s) = false := by rw [beq_eq_false_iff_ne]; exact he
          have HX : Hid (idxL s wordsL = (idxL s (wordsL.drop 3)).map (· + 3)) := hidI (by rw [HI.out]; exact idx_skip (k := 2) (by decide) he)
          clear he HI
          go_wp2_with fail
          go_round
          case rel => exact ⟨3, by omega, by go_num, HX⟩
          case measure => simp [intOf]
      · by_cases he : ([109, 111, 118, 101] : List UInt8) = s
        · have e3 : (([109, 111, 118, 101] : List UInt8) == s) = true := by rw [beq_iff_eq]; exact he
          have HX : Hid (kindF s = 4) := hidI (by unfold kindF; rw [HI.out, idx_here (k := 3) (by decide) he]; rfl)
          clear he HI
          go_wp2_with fail
          go_ret
          exact ⟨by rw [HX.out]; rfl, Below.refl _ _⟩
        · have e3 : (([109, 111, 118, 101] : List UInt8) == s) = false := by rw [beq_eq_false_iff_ne]; exact he
          have HX : Hid (idxL s wordsL = (idxL s (wordsL.drop 4)).map (· + 4)) := hidI (by rw [HI.out]; exact idx_skip (k := 3) (by decide) he)
          clear he HI
          go_wp2_with fail
          go_round
          case rel => exact ⟨4, by omega, by go_num, HX⟩
          case measure => simp [intOf]
      · by_cases he : ([99, 111, 112, 121] : List UInt8) = s
        · have e3 : (([99, 111, 112, 121] : List UInt8) == s) = true := by rw [beq_iff_eq]; exact he
          have HX : Hid (kindF s = 5) := hidI (by unfold kindF; rw [HI.out, idx_here (k := 4) (by decide) he]; rfl)
          clear he HI
          go_wp2_with fail
          go_ret
          exact ⟨by rw [HX.out]; rfl, Below.refl _ _⟩
        · have e3 : (([99, 111, 112, 121] : List UInt8) == s) = false := by rw [beq_eq_false_iff_ne]; exact he
          have HX : Hid (idxL s wordsL = (idxL s (wordsL.drop 5)).map (· + 5)) := hidI (by rw [HI.out]; exact idx_skip (k := 4) (by decide) he)
          clear he HI
          go_wp2_with fail
          go_round
          case rel => exact ⟨5, by omega, by go_num, HX⟩
          case measure => simp [intOf]
      · by_cases he : ([116, 101, 115, 116] : List UInt8) = s
        · have e3 : (([116, 101, 115, 116] : List UInt8) == s) = true := by rw [beq_iff_eq]; exact he
          have HX : Hid (kindF s = 6) := hidI (by unfold kindF; rw [HI.out, idx_here (k := 5) (by decide) he]; rfl)
          clear he HI
          go_wp2_with fail
          go_ret
          exact ⟨by rw [HX.out]; rfl, Below.refl _ _⟩
        · have e3 : (([116, 101, 115, 116] : List UInt8) == s) = false := by rw [beq_eq_false_iff_ne]; exact he
          have HX : Hid (idxL s wordsL = (idxL s (wordsL.drop 6)).map (· + 6)) := hidI (by rw [HI.out]; exact idx_skip (k := 5) (by decide) he)
          clear he HI
          go_wp2_with fail
          go_round
          case rel => exact ⟨6, by omega, by go_num, HX⟩
          case measure => simp [intOf]
    · have hk6 : k = 6 := by omega
      subst hk6
      have HX : Hid (kindF s = 0) := hidI (by unfold kindF; rw [HI.out]; rfl)
      clear HI hk hlt
      go_wp2_with fail
      go_ret
      exact ⟨by rw [HX.out]; rfl, Below.refl _ _⟩
set_option maxRecDepth 100000 in
set_option maxHeartbeats 4000000 in
theorem text_none (w : World) (ok : Nat → Prop) (t : V) (v : Value) (key : List UInt8) (h : In w ok t v) (hm : memV t key = none) : Calls Tryd.prog 58 #[v, str key] w fun e w' => e = .returned (.tuple #[str ((textF t key).getD []), .bool (textF t key).isSome]) ∧ Below w.heap.size w w' := by
  have H := hidI h
  obtain ⟨a1, b1, c1, d1, rfl⟩ := h.form
  have HM := hidI hm
  have HA : Hid (textF t key = none) := hidI (by simp [textF, hm])
  clear hm
  clear h
  unfold str
  have B0 := hidI (bel_alloc w (.cells #[.int .i64 t.kind, .int .i64 t.n, .string ⟨t.s.toArray⟩, .slice a1 t.keys.length c1, .slice b1 t.l.length d1] 25))
  go_enter Tryd.func58, Tryd.ntmps58
  go_wp2_with (go_at_call 45; refine (member_is _ ok t _ key (by exact H.out.bel B0.out)).mono ?_; rintro e w2 ⟨xm, bm, rfl, hb, hb2, m, hy, hyz⟩; obtain ⟨a5, b5, c5, d5, rfl⟩ := hy.form; rw [HM.out] at hb2 hyz; simp only [Option.isSome] at hb2; subst hb2; have Bm := hidI (show BoxIs (w2.alloc (.cells #[.int .i64 m.kind, .int .i64 m.n, .string ⟨m.s.toArray⟩, .slice a5 m.keys.length c5, .slice b5 m.l.length d5] 25)) w2.heap.size (.int .i64 m.kind) (.int .i64 m.n) (.string ⟨m.s.toArray⟩) (.slice a5 m.keys.length c5) (.slice b5 m.l.length d5) from heap_alloc_new w2 _); have HB := hidI (bel_trans B0.out (bel_trans hb (bel_alloc w2 (.cells #[.int .i64 m.kind, .int .i64 m.n, .string ⟨m.s.toArray⟩, .slice a5 m.keys.length c5, .slice b5 m.l.length d5] 25)))); obtain ⟨m0, m1, m2, m3, m4, -⟩ := Bm.out.c; clear hb hy hyz)
  refine bodyPost_ret (v := .tuple #[.string ⟨#[]⟩, .bool false]) (by simp [results, Tryd.results58, go_sem]) rfl ⟨by rw [HA.out]; rfl, HB.out⟩
set_option maxRecDepth 100000 in
set_option maxHeartbeats 4000000 in
theorem text_other (w : World) (ok : Nat → Prop) (t : V) (v : Value) (key : List UInt8) (h : In w ok t v) (mm : V) (hm : memV t key = some mm) (hk : mm.kind ≠ 3) : Calls Tryd.prog 58 #[v, str key] w fun e w' => e = .returned (.tuple #[str ((textF t key).getD []), .bool (textF t key).isSome]) ∧ Below w.heap.size w w' := by
  have H := hidI h
  obtain ⟨a1, b1, c1, d1, rfl⟩ := h.form
  have HM := hidI hm
  have HA : Hid (textF t key = none) := hidI (by simp [textF, hm, hk])
  have e1 : (mm.kind == 3) = false := by simp [hk]
  have e1n : (mm.kind != 3) = true := by simp [hk]
  clear hm hk
  clear h
  unfold str
  have B0 := hidI (bel_alloc w (.cells #[.int .i64 t.kind, .int .i64 t.n, .string ⟨t.s.toArray⟩, .slice a1 t.keys.length c1, .slice b1 t.l.length d1] 25))
  go_enter Tryd.func58, Tryd.ntmps58
  go_wp2_with (go_at_call 45; refine (member_is _ ok t _ key (by exact H.out.bel B0.out)).mono ?_; rintro e w2 ⟨xm, bm, rfl, hb, hb2, m, hy, hyz⟩; obtain ⟨a5, b5, c5, d5, rfl⟩ := hy.form; rw [HM.out] at hb2 hyz; simp only [Option.isSome] at hb2; subst hb2; obtain rfl := hyz _ rfl; have Bm := hidI (show BoxIs (w2.alloc (.cells #[.int .i64 m.kind, .int .i64 m.n, .string ⟨m.s.toArray⟩, .slice a5 m.keys.length c5, .slice b5 m.l.length d5] 25)) w2.heap.size (.int .i64 m.kind) (.int .i64 m.n) (.string ⟨m.s.toArray⟩) (.slice a5 m.keys.length c5) (.slice b5 m.l.length d5) from heap_alloc_new w2 _); have HB := hidI (bel_trans B0.out (bel_trans hb (bel_alloc w2 (.cells #[.int .i64 m.kind, .int .i64 m.n, .string ⟨m.s.toArray⟩, .slice a5 m.keys.length c5, .slice b5 m.l.length d5] 25)))); obtain ⟨m0, m1, m2, m3, m4, -⟩ := Bm.out.c; clear hb hy hyz)
  refine bodyPost_ret (v := .tuple #[.string ⟨#[]⟩, .bool false]) (by simp [results, Tryd.results58, go_sem]) rfl ⟨by rw [HA.out]; rfl, HB.out⟩
set_option maxRecDepth 100000 in
set_option maxHeartbeats 4000000 in
theorem text_text (w : World) (ok : Nat → Prop) (t : V) (v : Value) (key : List UInt8) (h : In w ok t v) (mm : V) (hm : memV t key = some mm) (hk : mm.kind = 3) : Calls Tryd.prog 58 #[v, str key] w fun e w' => e = .returned (.tuple #[str ((textF t key).getD []), .bool (textF t key).isSome]) ∧ Below w.heap.size w w' := by
  have H := hidI h
  obtain ⟨a1, b1, c1, d1, rfl⟩ := h.form
  have HM := hidI hm
  have HA : Hid (textF t key = some mm.s) := hidI (by simp [textF, hm, hk])
  have e1 : (mm.kind == 3) = true := by simp [hk]
  have e1n : (mm.kind != 3) = false := by simp [hk]
  clear hm hk
  clear h
  unfold str
  have B0 := hidI (bel_alloc w (.cells #[.int .i64 t.kind, .int .i64 t.n, .string ⟨t.s.toArray⟩, .slice a1 t.keys.length c1, .slice b1 t.l.length d1] 25))
  go_enter Tryd.func58, Tryd.ntmps58
  go_wp2_with (go_at_call 45; refine (member_is _ ok t _ key (by exact H.out.bel B0.out)).mono ?_; rintro e w2 ⟨xm, bm, rfl, hb, hb2, m, hy, hyz⟩; obtain ⟨a5, b5, c5, d5, rfl⟩ := hy.form; rw [HM.out] at hb2 hyz; simp only [Option.isSome] at hb2; subst hb2; obtain rfl := hyz _ rfl; have Bm := hidI (show BoxIs (w2.alloc (.cells #[.int .i64 m.kind, .int .i64 m.n, .string ⟨m.s.toArray⟩, .slice a5 m.keys.length c5, .slice b5 m.l.length d5] 25)) w2.heap.size (.int .i64 m.kind) (.int .i64 m.n) (.string ⟨m.s.toArray⟩) (.slice a5 m.keys.length c5) (.slice b5 m.l.length d5) from heap_alloc_new w2 _); have HB := hidI (bel_trans B0.out (bel_trans hb (bel_alloc w2 (.cells #[.int .i64 m.kind, .int .i64 m.n, .string ⟨m.s.toArray⟩, .slice a5 m.keys.length c5, .slice b5 m.l.length d5] 25)))); obtain ⟨m0, m1, m2, m3, m4, -⟩ := Bm.out.c; clear hb hy hyz)
  refine bodyPost_ret (v := .tuple #[.string ⟨m.s.toArray⟩, .bool true]) (by simp [results, Tryd.results58, go_sem]) rfl ⟨by rw [HA.out]; rfl, HB.out⟩
theorem text_at (w : World) (ok : Nat → Prop) (t : V) (v : Value) (key : List UInt8) (h : In w ok t v) : Calls Tryd.prog 58 #[v, str key] w fun e w' => e = .returned (.tuple #[str ((textF t key).getD []), .bool (textF t key).isSome]) ∧ Below w.heap.size w w' := by
  cases hm : memV t key with
  | none => exact text_none w ok t v key h hm
  | some m =>
    by_cases hk : m.kind = 3
    · exact text_text w ok t v key h m hm hk
    · exact text_other w ok t v key h m hm hk
end Go.Proofs.YtaifciobaapehaaDoor

/- What the listed variables of a row over package patch give: the words of operations; a world for its witness. -/
set_option linter.unusedSimpArgs false
set_option linter.unusedVariables false
namespace Go.Proofs.YtaifciobaapehaaDoor
open Go.ChangeShapes Go.WideShapes Go.ChangeAt Go.RowKit

def laidPw : List (String × DataW Unit) := [("unicode/utf8.acceptRanges", Rows.laid_unicode_utf8_acceptRanges), ("stairwell/patch.words", Rows.laid_stairwell_patch_words), ("unicode/utf8.first", Rows.laid_unicode_utf8_first)]
theorem gWordsN : Tryd.prog.globalNamed "stairwell/patch.words" = some 0 := by kernel_rfl
theorem gWordsT : (Tryd.prog.globals[0]?).map (·.type) = some 86 := by kernel_rfl
theorem cellsWords : Tryd.prog.cellsOf 86 = 6 := by kernel_rfl
theorem cells_texts {H : Type} {enc : TypeId × Value → H} {w : World} {base : Nat} {sp : Nat → Bool} {held : Bool} {fuel : Nat} {cs : List Value} {zs : List (List UInt8)} {p : List MemPlace} (hz : zs.length = 6)
    (h : DataW.trod enc Tryd.prog w base sp held fuel 86 cs = some (.agg (zs.map fun z => .lit (.string z)), p)) : cs = zs.map fun z => Value.string ⟨z.toArray⟩ := by
  obtain ⟨xs, m, e, hx, hl, hlen, hf⟩ := DataW.trod_array Tryd.underlying86 h
  rw [cellsWords] at hl
  have hxs : xs.map (·.1) = zs.map fun z => (DataW.lit (.string z) : DataW H) := by
    have := congrArg Prod.fst hx
    simpa using this.symm
  apply List.ext_getElem?
  intro i
  by_cases hi : i < 6
  · have hfi := hf i hi
    rw [cellsString, Nat.mul_one, List.getElem?_eq_getElem (by omega)] at hfi
    obtain ⟨s, e1, e2, -⟩ := DataW.trod_string Tryd.underlying9 hfi
    have h1 : cs[i]? = some (.string s) := by
      have := congrArg (·[0]?) e1
      simpa [List.getElem?_take, List.getElem?_drop] using this
    have h2 : (xs.map (·.1))[i]? = some (DataW.lit (.string s.data.toList) : DataW H) := by
      rw [List.getElem?_map, List.getElem?_eq_getElem (by omega), e2]; rfl
    rw [hxs] at h2
    simp only [List.getElem?_map, Option.map_eq_some_iff, DataW.lit.injEq, Lit.string.injEq] at h2
    obtain ⟨z', hz', e3⟩ := h2
    rw [h1, List.getElem?_map, hz', e3]
    simp
  · rw [List.getElem?_eq_none (by omega), List.getElem?_eq_none (by simp; omega)]
theorem glob_w {W : World} (h : laidMet Tryd.prog laidPw W) : GlobW W := by
  have h2 := h.tail
  obtain ⟨ps, ⟨g', t', cs, fuel, p, q, hg', ht', hvar, hd, _, _⟩, _⟩ := h2
  obtain rfl := Option.some.inj (gWordsN.symm.trans hg')
  obtain rfl := Option.some.inj (gWordsT.symm.trans ht')
  have hc := cells_texts (zs := wordsL) rfl hd
  obtain ⟨t1, f1, e1⟩ := var_block gWordsN hvar
  refine ⟨t1, f1, ?_⟩
  rw [e1]
  congr 2
  simpa [wordsL] using congrArg List.toArray hc
def textCells : DataW Unit → Array Value
  | .agg l => (l.map fun | .lit (.string s) => Value.string ⟨s.toArray⟩ | _ => .string ⟨#[]⟩).toArray
  | _ => #[]
noncomputable def pwWorld (os : Os) : World :=
  let w0 := World.holding Tryd.prog os ⟨#[], #[], []⟩
  { w0 with heap := putAt (putAt (putAt w0.heap 3 (flatCells Rows.laid_unicode_utf8_acceptRanges)) 0 (textCells Rows.laid_stairwell_patch_words)) 2 (flatCells Rows.laid_unicode_utf8_first) }
set_option maxRecDepth 100000 in
theorem pw_met (os : Os) (args : Array Value) : laidMet Tryd.prog laidPw ((pwWorld os).forCall (fun _ _ => 0) ⟨#[], args, []⟩).memory :=
  laidMet_of_run' 8 (by kernel_rfl) (by kernel_rfl)
end Go.Proofs.YtaifciobaapehaaDoor

/- What operation of package patch does. -/
set_option linter.unusedSimpArgs false
set_option linter.unusedVariables false
namespace Go.Proofs.YtaifciobaapehaaDoor
open Go.RowKit

/- An operation's box. -/
def OBox (w : World) (g : Nat) (u0 u1 u2 v0 v1 v2 v3 v4 : Value) : Prop := w.heap[g]? = some (.cells #[u0, u1, u2, v0, v1, v2, v3, v4] 43)
theorem OBox.c {w : World} {g : Nat} {u0 u1 u2 v0 v1 v2 v3 v4 : Value} (h : OBox w g u0 u1 u2 v0 v1 v2 v3 v4) : (w.cell? ⟨g, 0, none⟩ = some u0 ∧ w.cell? ⟨g, 1, none⟩ = some u1 ∧ w.cell? ⟨g, 2, none⟩ = some u2 ∧ w.cell? ⟨g, 3, none⟩ = some v0 ∧ w.cell? ⟨g, 4, none⟩ = some v1 ∧ w.cell? ⟨g, 5, none⟩ = some v2 ∧ w.cell? ⟨g, 6, none⟩ = some v3 ∧ w.cell? ⟨g, 7, none⟩ = some v4) ∧ ∀ i, w.frozen? ⟨g, i, none⟩ = false := by
  unfold OBox at h
  refine ⟨⟨?_, ?_, ?_, ?_, ?_, ?_, ?_, ?_⟩, fun i => ?_⟩ <;> simp [World.cell?, World.frozen?, h]
theorem OBox.bel {w w' : World} {g : Nat} {u0 u1 u2 v0 v1 v2 v3 v4 : Value} (h : OBox w g u0 u1 u2 v0 v1 v2 v3 v4) (hb : Below w.heap.size w w') : OBox w' g u0 u1 u2 v0 v1 v2 v3 v4 := (hb.block g (Array.getElem?_eq_some_iff.1 h).1).trans h
def set8 (w : World) (g : Nat) (u0 u1 u2 v0 v1 v2 v3 v4 : Value) : World :=
  (((((((w.setCell ⟨g, 0, none⟩ u0).setCell ⟨g, 1, none⟩ u1).setCell ⟨g, 2, none⟩ u2).setCell ⟨g, 3, none⟩ v0).setCell ⟨g, 4, none⟩ v1).setCell ⟨g, 5, none⟩ v2).setCell ⟨g, 6, none⟩ v3).setCell ⟨g, 7, none⟩ v4
theorem set8_gb (w : World) (g : Nat) (u0 u1 u2 v0 v1 v2 v3 v4 : Value) : w.grownBy (set8 w g u0 u1 u2 v0 v1 v2 v3 v4) (some g) := gb_set (gb_set (gb_set (gb_set (gb_set (gb_set (gb_set (gb_set (gb_refl _ _) _ _) _ _) _ _) _ _) _ _) _ _) _ _) _ _
theorem OBox.set {w : World} {g : Nat} {u0 u1 u2 v0 v1 v2 v3 v4 : Value} (h : OBox w g u0 u1 u2 v0 v1 v2 v3 v4) (s0 s1 s2 x0 x1 x2 x3 x4 : Value) : OBox (set8 w g s0 s1 s2 x0 x1 x2 x3 x4) g s0 s1 s2 x0 x1 x2 x3 x4 := by
  unfold OBox at h ⊢
  unfold set8
  have e := heap_set (heap_set (heap_set (heap_set (heap_set (heap_set (heap_set (heap_set h 0 s0) 1 s1) 2 s2) 3 x0) 4 x1) 5 x2) 6 x3) 7 x4
  simpa using e
theorem bel_set8 {a w : World} {g : Nat} (h : Below a.heap.size a w) (hg : a.heap.size ≤ g) (u0 u1 u2 v0 v1 v2 v3 v4 : Value) : Below a.heap.size a (set8 w g u0 u1 u2 v0 v1 v2 v3 v4) := gb_none (gb_out (gb_below h) (set8_gb w g u0 u1 u2 v0 v1 v2 v3 v4) hg)
theorem OBox.grown {w w' : World} {g : Nat} {u0 u1 u2 v0 v1 v2 v3 v4 : Value} {r : Option Nat} (h : OBox w g u0 u1 u2 v0 v1 v2 v3 v4) (hg : w.grownBy w' r) (hr : some g ≠ r) : OBox w' g u0 u1 u2 v0 v1 v2 v3 v4 := (hg.block g (Array.getElem?_eq_some_iff.1 h).1 hr).trans h
def OD (w : World) (t : V) (a1 b1 : Option Addr) (c1 d1 : Nat) (wS : World) : Prop := BoxIs wS w.heap.size (.int .i64 t.kind) (.int .i64 t.n) (.string ⟨t.s.toArray⟩) (.slice a1 t.keys.length c1) (.slice b1 t.l.length d1) ∧ OBox wS (w.heap.size + 1) (.int .i64 0) (.string ⟨#[]⟩) (.string ⟨#[]⟩) (.int .i64 0) (.int .i64 0) (.string ⟨#[]⟩) (.slice none 0 0) (.slice none 0 0) ∧ Below w.heap.size w wS
theorem OD.bel {w wS w' : World} {t : V} {a1 b1 : Option Addr} {c1 d1 : Nat} (h : OD w t a1 b1 c1 d1 wS) (hb : Below wS.heap.size wS w') : OD w t a1 b1 c1 d1 w' := ⟨box_bel hb h.1, h.2.1.bel hb, bel_trans h.2.2 hb⟩
theorem OD.big {w wS : World} {t : V} {a1 b1 : Option Addr} {c1 d1 : Nat} (h : OD w t a1 b1 c1 d1 wS) : w.heap.size + 1 < wS.heap.size := (Array.getElem?_eq_some_iff.1 h.2.1).1
theorem OD.grown {w wS w' : World} {t : V} {a1 b1 : Option Addr} {c1 d1 g : Nat} (h : OD w t a1 b1 c1 d1 wS) (hg : wS.grownBy w' (some g)) (hr : w.heap.size + 2 ≤ g) : OD w t a1 b1 c1 d1 w' := by
  have hbig := h.big
  refine ⟨h.1.grown hg (by simp; omega), h.2.1.grown hg (by simp; omega), ?_⟩
  have hb := h.2.2
  exact ⟨hg.os.trans hb.os, hg.tape.trans hb.tape, hg.output.trans hb.output, Nat.le_trans hb.size hg.size, fun j hj => (hg.block j (by omega) (fun e => by cases e; omega)).trans (hb.block j hj)⟩
/- What operation answers. -/
def OpP (w : World) (ok : Nat → Prop) (t : V) (e : Ending) (w' : World) : Prop := ∃ (o : OpT) (a7 a8 : Option Addr) (c7 c8 : Nat), e = .returned (.tuple #[.agg #[.int .i64 o.kind, .string ⟨o.path.toArray⟩, .string ⟨o.frm.toArray⟩, .int .i64 o.value.kind, .int .i64 o.value.n, .string ⟨o.value.s.toArray⟩, .slice a7 o.value.keys.length c7, .slice a8 o.value.l.length c8], .bool (opF t).isSome]) ∧ In w' ok o.value (.agg #[.int .i64 o.value.kind, .int .i64 o.value.n, .string ⟨o.value.s.toArray⟩, .slice a7 o.value.keys.length c7, .slice a8 o.value.l.length c8]) ∧ (∀ z, opF t = some z → o = z) ∧ Below w.heap.size w w'
theorem opp_zero {w w' : World} {ok : Nat → Prop} {t : V} (hb : Below w.heap.size w w') (h : opF t = none) : OpP w ok t (.returned (.tuple #[.agg #[.int .i64 0, .string ⟨#[]⟩, .string ⟨#[]⟩, .int .i64 0, .int .i64 0, .string ⟨#[]⟩, .slice none 0 0, .slice none 0 0], .bool false])) w' :=
  ⟨⟨0, [], [], zeroT⟩, none, none, 0, 0, by rw [h]; rfl, in_zero _ _, fun z hz => (by rw [h] at hz; cases hz), hb⟩
set_option maxRecDepth 100000 in
set_option maxHeartbeats 4000000 in
theorem operation_word (w : World) (ok : Nat → Prop) (t : V) (v : Value) (h : In w ok t v) (h0 : ∀ k, ok k → k < w.heap.size) (hG : GlobW w) (h1 : textF t opB = none) : Calls Tryd.prog 35 #[v] w (OpP w ok t) := by
  have H := hidI h
  have GG := hidI hG
  have H0 := hidI h0
  obtain ⟨a1, b1, c1, d1, rfl⟩ := h.form
  have K0 : Hid (OD w t a1 b1 c1 d1 ((w.alloc (.cells #[.int .i64 t.kind, .int .i64 t.n, .string ⟨t.s.toArray⟩, .slice a1 t.keys.length c1, .slice b1 t.l.length d1] 25)).alloc (.cells #[.int .i64 0, .string ⟨#[]⟩, .string ⟨#[]⟩, .int .i64 0, .int .i64 0, .string ⟨#[]⟩, .slice none 0 0, .slice none 0 0] 43))) := hidI ⟨h2a w _ _, h2b w _ _, bel_trans (bel_alloc _ _) (bel_alloc _ _)⟩
  clear h hG h0
  have T1 := hidI h1
  have HA : Hid (opF t = none) := hidI (by simp [opF, h1])
  obtain ⟨b2, hb2⟩ : ∃ b, (textF t pathB).isSome = b := ⟨_, rfl⟩
  have T2 := hidI hb2
  clear h1 hb2
  obtain ⟨u1, hu1⟩ : ∃ u, (textF t opB).getD [] = u := ⟨_, rfl⟩
  obtain ⟨u2, hu2⟩ : ∃ u, (textF t pathB).getD [] = u := ⟨_, rfl⟩
  obtain ⟨kk, hkk⟩ : ∃ k, kindF u1 = k := ⟨_, rfl⟩
  have U1 := hidI hu1
  have U2 := hidI hu2
  have UK := hidI hkk
  clear hu1 hu2 hkk
  go_enter Tryd.func35, Tryd.ntmps35
  go_upto_region 2 with (go_at_call 58; refine (text_at _ ok t _ opB (by exact H.out.bel K0.out.2.2)).mono ?_; rintro e w1 ⟨rfl, hb⟩; unfold str; have K1 := hidI (K0.out.bel hb); obtain ⟨t0, t1, t2, t3, t4, -⟩ := K1.out.1.c; rw [U1.out, (show (textF t opB).isSome = false by rw [T1.out]; rfl)]; clear hb)
  go_upto_region 3 with (go_at_call 58; refine (text_at _ ok t _ pathB (by exact H.out.bel K1.out.2.2)).mono ?_; rintro e w2 ⟨rfl, hb⟩; unfold str; have K2 := hidI (K1.out.bel hb); clear t0 t1 t2 t3 t4; obtain ⟨t0, t1, t2, t3, t4, -⟩ := K2.out.1.c; rw [U2.out, T2.out]; clear hb)
  go_upto_region 4 with (go_at_call 59; refine (kindOf_at _ _ (by exact GG.out.bel K2.out.2.2)).mono ?_; rintro e w3 ⟨rfl, hb⟩; have K3 := hidI (K2.out.bel hb); clear t0 t1 t2 t3 t4; obtain ⟨t0, t1, t2, t3, t4, -⟩ := K3.out.1.c; rw [UK.out]; clear hb)
  obtain ⟨⟨o0, o1, o2, o3, o4, o5, o6, o7⟩, of⟩ := K3.out.2.1.c
  have f0 := of 0
  have f1 := of 1
  have f2 := of 2
  have f3 := of 3
  have f4 := of 4
  have f5 := of 5
  have f6 := of 6
  have f7 := of 7
  clear of
  have ZB := hidI (K3.out.2.1.set (.int .i64 0) (.string ⟨#[]⟩) (.string ⟨#[]⟩) (.int .i64 0) (.int .i64 0) (.string ⟨#[]⟩) (.slice none 0 0) (.slice none 0 0))
  have ZL := hidI (bel_set8 K3.out.2.2 (Nat.le_succ w.heap.size) (.int .i64 0) (.string ⟨#[]⟩) (.string ⟨#[]⟩) (.int .i64 0) (.int .i64 0) (.string ⟨#[]⟩) (.slice none 0 0) (.slice none 0 0))
  go_wp2_with fail
  obtain ⟨⟨z0, z1, z2, z3, z4, z5, z6, z7⟩, -⟩ := ZB.out.c
  refine bodyPost_ret (v := .tuple #[.agg #[.int .i64 0, .string ⟨#[]⟩, .string ⟨#[]⟩, .int .i64 0, .int .i64 0, .string ⟨#[]⟩, .slice none 0 0, .slice none 0 0], .bool false]) ?_ rfl (opp_zero (by exact ZL.out) HA.out)
  simp only [set8] at z0 z1 z2 z3 z4 z5 z6 z7
  simp [results, Tryd.results35, go_sem, z0, z1, z2, z3, z4, z5, z6, z7]
set_option maxRecDepth 100000 in
set_option maxHeartbeats 4000000 in
theorem operation_path (w : World) (ok : Nat → Prop) (t : V) (v : Value) (h : In w ok t v) (h0 : ∀ k, ok k → k < w.heap.size) (hG : GlobW w) (w1' : List UInt8) (h1 : textF t opB = some w1') (h2 : textF t pathB = none) : Calls Tryd.prog 35 #[v] w (OpP w ok t) := by
  have H := hidI h
  have GG := hidI hG
  have H0 := hidI h0
  obtain ⟨a1, b1, c1, d1, rfl⟩ := h.form
  have K0 : Hid (OD w t a1 b1 c1 d1 ((w.alloc (.cells #[.int .i64 t.kind, .int .i64 t.n, .string ⟨t.s.toArray⟩, .slice a1 t.keys.length c1, .slice b1 t.l.length d1] 25)).alloc (.cells #[.int .i64 0, .string ⟨#[]⟩, .string ⟨#[]⟩, .int .i64 0, .int .i64 0, .string ⟨#[]⟩, .slice none 0 0, .slice none 0 0] 43))) := hidI ⟨h2a w _ _, h2b w _ _, bel_trans (bel_alloc _ _) (bel_alloc _ _)⟩
  clear h hG h0
  have T1 := hidI h1
  have T2 := hidI h2
  have HA : Hid (opF t = none) := hidI (by simp [opF, h1, h2])
  clear h1 h2
  obtain ⟨u1, hu1⟩ : ∃ u, (textF t opB).getD [] = u := ⟨_, rfl⟩
  obtain ⟨u2, hu2⟩ : ∃ u, (textF t pathB).getD [] = u := ⟨_, rfl⟩
  obtain ⟨kk, hkk⟩ : ∃ k, kindF u1 = k := ⟨_, rfl⟩
  have U1 := hidI hu1
  have U2 := hidI hu2
  have UK := hidI hkk
  clear hu1 hu2 hkk
  go_enter Tryd.func35, Tryd.ntmps35
  go_upto_region 2 with (go_at_call 58; refine (text_at _ ok t _ opB (by exact H.out.bel K0.out.2.2)).mono ?_; rintro e w1 ⟨rfl, hb⟩; unfold str; have K1 := hidI (K0.out.bel hb); obtain ⟨t0, t1, t2, t3, t4, -⟩ := K1.out.1.c; rw [U1.out, (show (textF t opB).isSome = true by rw [T1.out]; rfl)]; clear hb)
  go_upto_region 3 with (go_at_call 58; refine (text_at _ ok t _ pathB (by exact H.out.bel K1.out.2.2)).mono ?_; rintro e w2 ⟨rfl, hb⟩; unfold str; have K2 := hidI (K1.out.bel hb); clear t0 t1 t2 t3 t4; obtain ⟨t0, t1, t2, t3, t4, -⟩ := K2.out.1.c; rw [U2.out, (show (textF t pathB).isSome = false by rw [T2.out]; rfl)]; clear hb)
  go_upto_region 4 with (go_at_call 59; refine (kindOf_at _ _ (by exact GG.out.bel K2.out.2.2)).mono ?_; rintro e w3 ⟨rfl, hb⟩; have K3 := hidI (K2.out.bel hb); clear t0 t1 t2 t3 t4; obtain ⟨t0, t1, t2, t3, t4, -⟩ := K3.out.1.c; rw [UK.out]; clear hb)
  obtain ⟨⟨o0, o1, o2, o3, o4, o5, o6, o7⟩, of⟩ := K3.out.2.1.c
  have f0 := of 0
  have f1 := of 1
  have f2 := of 2
  have f3 := of 3
  have f4 := of 4
  have f5 := of 5
  have f6 := of 6
  have f7 := of 7
  clear of
  have ZB := hidI (K3.out.2.1.set (.int .i64 0) (.string ⟨#[]⟩) (.string ⟨#[]⟩) (.int .i64 0) (.int .i64 0) (.string ⟨#[]⟩) (.slice none 0 0) (.slice none 0 0))
  have ZL := hidI (bel_set8 K3.out.2.2 (Nat.le_succ w.heap.size) (.int .i64 0) (.string ⟨#[]⟩) (.string ⟨#[]⟩) (.int .i64 0) (.int .i64 0) (.string ⟨#[]⟩) (.slice none 0 0) (.slice none 0 0))
  go_wp2_with fail
  obtain ⟨⟨z0, z1, z2, z3, z4, z5, z6, z7⟩, -⟩ := ZB.out.c
  refine bodyPost_ret (v := .tuple #[.agg #[.int .i64 0, .string ⟨#[]⟩, .string ⟨#[]⟩, .int .i64 0, .int .i64 0, .string ⟨#[]⟩, .slice none 0 0, .slice none 0 0], .bool false]) ?_ rfl (opp_zero (by exact ZL.out) HA.out)
  simp only [set8] at z0 z1 z2 z3 z4 z5 z6 z7
  simp [results, Tryd.results35, go_sem, z0, z1, z2, z3, z4, z5, z6, z7]
set_option maxRecDepth 100000 in
set_option maxHeartbeats 4000000 in
theorem operation_kind (w : World) (ok : Nat → Prop) (t : V) (v : Value) (h : In w ok t v) (h0 : ∀ k, ok k → k < w.heap.size) (hG : GlobW w) (wd p : List UInt8) (h1 : textF t opB = some wd) (h2 : textF t pathB = some p) (hk : kindF wd = 0) : Calls Tryd.prog 35 #[v] w (OpP w ok t) := by
  have H := hidI h
  have GG := hidI hG
  have H0 := hidI h0
  obtain ⟨a1, b1, c1, d1, rfl⟩ := h.form
  have K0 : Hid (OD w t a1 b1 c1 d1 ((w.alloc (.cells #[.int .i64 t.kind, .int .i64 t.n, .string ⟨t.s.toArray⟩, .slice a1 t.keys.length c1, .slice b1 t.l.length d1] 25)).alloc (.cells #[.int .i64 0, .string ⟨#[]⟩, .string ⟨#[]⟩, .int .i64 0, .int .i64 0, .string ⟨#[]⟩, .slice none 0 0, .slice none 0 0] 43))) := hidI ⟨h2a w _ _, h2b w _ _, bel_trans (bel_alloc _ _) (bel_alloc _ _)⟩
  clear h hG h0
  have T1 := hidI h1
  have T2 := hidI h2
  have HA : Hid (opF t = none) := hidI (by simp [opF, h1, h2, hk])
  clear h1 h2
  obtain ⟨u1, hu1⟩ : ∃ u, (textF t opB).getD [] = u := ⟨_, rfl⟩
  obtain ⟨u2, hu2⟩ : ∃ u, (textF t pathB).getD [] = u := ⟨_, rfl⟩
  obtain ⟨kk, hkk⟩ : ∃ k, kindF u1 = k := ⟨_, rfl⟩
  have U1 := hidI hu1
  have U2 := hidI hu2
  have UK := hidI hkk
  clear hu1 hu2 hkk
  have hw : u1 = wd := by rw [← U1.out, T1.out]; rfl
  have hq : u2 = p := by rw [← U2.out, T2.out]; rfl
  have hk9 : kk = 0 := by rw [← UK.out, hw]; exact hk
  subst hk9
  subst hw
  subst hq
  clear hk
  go_enter Tryd.func35, Tryd.ntmps35
  go_upto_region 2 with (go_at_call 58; refine (text_at _ ok t _ opB (by exact H.out.bel K0.out.2.2)).mono ?_; rintro e w1 ⟨rfl, hb⟩; unfold str; have K1 := hidI (K0.out.bel hb); obtain ⟨t0, t1, t2, t3, t4, -⟩ := K1.out.1.c; rw [U1.out, (show (textF t opB).isSome = true by rw [T1.out]; rfl)]; clear hb)
  go_upto_region 3 with (go_at_call 58; refine (text_at _ ok t _ pathB (by exact H.out.bel K1.out.2.2)).mono ?_; rintro e w2 ⟨rfl, hb⟩; unfold str; have K2 := hidI (K1.out.bel hb); clear t0 t1 t2 t3 t4; obtain ⟨t0, t1, t2, t3, t4, -⟩ := K2.out.1.c; rw [U2.out, (show (textF t pathB).isSome = true by rw [T2.out]; rfl)]; clear hb)
  go_upto_region 4 with (go_at_call 59; refine (kindOf_at _ _ (by exact GG.out.bel K2.out.2.2)).mono ?_; rintro e w3 ⟨rfl, hb⟩; have K3 := hidI (K2.out.bel hb); clear t0 t1 t2 t3 t4; obtain ⟨t0, t1, t2, t3, t4, -⟩ := K3.out.1.c; rw [UK.out]; clear hb)
  obtain ⟨⟨o0, o1, o2, o3, o4, o5, o6, o7⟩, of⟩ := K3.out.2.1.c
  have f0 := of 0
  have f1 := of 1
  have f2 := of 2
  have f3 := of 3
  have f4 := of 4
  have f5 := of 5
  have f6 := of 6
  have f7 := of 7
  clear of
  have ZB := hidI (K3.out.2.1.set (.int .i64 0) (.string ⟨#[]⟩) (.string ⟨#[]⟩) (.int .i64 0) (.int .i64 0) (.string ⟨#[]⟩) (.slice none 0 0) (.slice none 0 0))
  have ZL := hidI (bel_set8 K3.out.2.2 (Nat.le_succ w.heap.size) (.int .i64 0) (.string ⟨#[]⟩) (.string ⟨#[]⟩) (.int .i64 0) (.int .i64 0) (.string ⟨#[]⟩) (.slice none 0 0) (.slice none 0 0))
  go_wp2_with fail
  obtain ⟨⟨z0, z1, z2, z3, z4, z5, z6, z7⟩, -⟩ := ZB.out.c
  refine bodyPost_ret (v := .tuple #[.agg #[.int .i64 0, .string ⟨#[]⟩, .string ⟨#[]⟩, .int .i64 0, .int .i64 0, .string ⟨#[]⟩, .slice none 0 0, .slice none 0 0], .bool false]) ?_ rfl (opp_zero (by exact ZL.out) HA.out)
  simp only [set8] at z0 z1 z2 z3 z4 z5 z6 z7
  simp [results, Tryd.results35, go_sem, z0, z1, z2, z3, z4, z5, z6, z7]
set_option maxRecDepth 100000 in
set_option maxHeartbeats 4000000 in
theorem operation_2 (w : World) (ok : Nat → Prop) (t : V) (v : Value) (h : In w ok t v) (h0 : ∀ k, ok k → k < w.heap.size) (hG : GlobW w) (wd p : List UInt8) (h1 : textF t opB = some wd) (h2 : textF t pathB = some p) (hk : kindF wd = 2) : Calls Tryd.prog 35 #[v] w (OpP w ok t) := by
  have H := hidI h
  have GG := hidI hG
  have H0 := hidI h0
  obtain ⟨a1, b1, c1, d1, rfl⟩ := h.form
  have K0 : Hid (OD w t a1 b1 c1 d1 ((w.alloc (.cells #[.int .i64 t.kind, .int .i64 t.n, .string ⟨t.s.toArray⟩, .slice a1 t.keys.length c1, .slice b1 t.l.length d1] 25)).alloc (.cells #[.int .i64 0, .string ⟨#[]⟩, .string ⟨#[]⟩, .int .i64 0, .int .i64 0, .string ⟨#[]⟩, .slice none 0 0, .slice none 0 0] 43))) := hidI ⟨h2a w _ _, h2b w _ _, bel_trans (bel_alloc _ _) (bel_alloc _ _)⟩
  clear h hG h0
  have T1 := hidI h1
  have T2 := hidI h2
  have HA : Hid (opF t = some ⟨2, p, [], zeroT⟩) := hidI (by simp [opF, h1, h2, hk])
  clear h1 h2
  obtain ⟨u1, hu1⟩ : ∃ u, (textF t opB).getD [] = u := ⟨_, rfl⟩
  obtain ⟨u2, hu2⟩ : ∃ u, (textF t pathB).getD [] = u := ⟨_, rfl⟩
  obtain ⟨kk, hkk⟩ : ∃ k, kindF u1 = k := ⟨_, rfl⟩
  have U1 := hidI hu1
  have U2 := hidI hu2
  have UK := hidI hkk
  clear hu1 hu2 hkk
  have hw : u1 = wd := by rw [← U1.out, T1.out]; rfl
  have hq : u2 = p := by rw [← U2.out, T2.out]; rfl
  have hk9 : kk = 2 := by rw [← UK.out, hw]; exact hk
  subst hk9
  subst hw
  subst hq
  clear hk
  go_enter Tryd.func35, Tryd.ntmps35
  go_upto_region 2 with (go_at_call 58; refine (text_at _ ok t _ opB (by exact H.out.bel K0.out.2.2)).mono ?_; rintro e w1 ⟨rfl, hb⟩; unfold str; have K1 := hidI (K0.out.bel hb); obtain ⟨t0, t1, t2, t3, t4, -⟩ := K1.out.1.c; rw [U1.out, (show (textF t opB).isSome = true by rw [T1.out]; rfl)]; clear hb)
  go_upto_region 3 with (go_at_call 58; refine (text_at _ ok t _ pathB (by exact H.out.bel K1.out.2.2)).mono ?_; rintro e w2 ⟨rfl, hb⟩; unfold str; have K2 := hidI (K1.out.bel hb); clear t0 t1 t2 t3 t4; obtain ⟨t0, t1, t2, t3, t4, -⟩ := K2.out.1.c; rw [U2.out, (show (textF t pathB).isSome = true by rw [T2.out]; rfl)]; clear hb)
  go_upto_region 4 with (go_at_call 59; refine (kindOf_at _ _ (by exact GG.out.bel K2.out.2.2)).mono ?_; rintro e w3 ⟨rfl, hb⟩; have K3 := hidI (K2.out.bel hb); clear t0 t1 t2 t3 t4; obtain ⟨t0, t1, t2, t3, t4, -⟩ := K3.out.1.c; rw [UK.out]; clear hb)
  have N3 : Hid (OBox (w3.alloc (.cells #[.int .i64 2, .string ⟨u2.toArray⟩, .string ⟨#[]⟩, .int .i64 0, .int .i64 0, .string ⟨#[]⟩, .slice none 0 0, .slice none 0 0] 43)) w3.heap.size (.int .i64 2) (.string ⟨u2.toArray⟩) (.string ⟨#[]⟩) (.int .i64 0) (.int .i64 0) (.string ⟨#[]⟩) (.slice none 0 0) (.slice none 0 0)) := hidI (heap_alloc_new w3 _)
  have K4 := hidI (K3.out.bel (bel_alloc w3 (.cells #[.int .i64 2, .string ⟨u2.toArray⟩, .string ⟨#[]⟩, .int .i64 0, .int .i64 0, .string ⟨#[]⟩, .slice none 0 0, .slice none 0 0] 43)))
  have hbig := K3.out.big
  go_upto_region 16 with fail
  obtain ⟨W6, hW6⟩ : ∃ W, w3.alloc (.cells #[.int .i64 2, .string ⟨u2.toArray⟩, .string ⟨#[]⟩, .int .i64 0, .int .i64 0, .string ⟨#[]⟩, .slice none 0 0, .slice none 0 0] 43) = W := ⟨_, rfl⟩
  rw [hW6] at N3 K4 ⊢
  clear hW6
  obtain ⟨⟨n0, n1, n2, n3, n4, n5, n6, n7⟩, -⟩ := N3.out.c
  obtain ⟨⟨o0, o1, o2, o3, o4, o5, o6, o7⟩, of⟩ := K4.out.2.1.c
  have f0 := of 0
  have f1 := of 1
  have f2 := of 2
  have f3 := of 3
  have f4 := of 4
  have f5 := of 5
  have f6 := of 6
  have f7 := of 7
  clear of
  have ZB := hidI (K4.out.2.1.set (.int .i64 2) (.string ⟨u2.toArray⟩) (.string ⟨#[]⟩) (.int .i64 0) (.int .i64 0) (.string ⟨#[]⟩) (.slice none 0 0) (.slice none 0 0))
  have ZL := hidI (bel_set8 K4.out.2.2 (Nat.le_succ w.heap.size) (.int .i64 2) (.string ⟨u2.toArray⟩) (.string ⟨#[]⟩) (.int .i64 0) (.int .i64 0) (.string ⟨#[]⟩) (.slice none 0 0) (.slice none 0 0))
  go_wp2_with fail
  obtain ⟨⟨z0, z1, z2, z3, z4, z5, z6, z7⟩, -⟩ := ZB.out.c
  refine bodyPost_ret (v := .tuple #[.agg #[.int .i64 2, .string ⟨u2.toArray⟩, .string ⟨#[]⟩, .int .i64 0, .int .i64 0, .string ⟨#[]⟩, .slice none 0 0, .slice none 0 0], .bool true]) ?_ rfl ?_
  · simp only [set8] at z0 z1 z2 z3 z4 z5 z6 z7
    simp [results, Tryd.results35, go_sem, z0, z1, z2, z3, z4, z5, z6, z7]
  · exact ⟨⟨2, u2, [], zeroT⟩, none, none, 0, 0, by rw [HA.out]; rfl, in_zero _ _, fun z hz => (by rw [HA.out] at hz; cases hz; rfl), by exact ZL.out⟩
set_option maxRecDepth 100000 in
set_option maxHeartbeats 4000000 in
theorem operation_1 (w : World) (ok : Nat → Prop) (t : V) (v : Value) (h : In w ok t v) (h0 : ∀ k, ok k → k < w.heap.size) (hG : GlobW w) (wd p : List UInt8) (h1 : textF t opB = some wd) (h2 : textF t pathB = some p) (hk : kindF wd = 1) (yy : V) (hm : memV t valueB = some yy) : Calls Tryd.prog 35 #[v] w (OpP w ok t) := by
  have H := hidI h
  have GG := hidI hG
  have H0 := hidI h0
  obtain ⟨a1, b1, c1, d1, rfl⟩ := h.form
  have K0 : Hid (OD w t a1 b1 c1 d1 ((w.alloc (.cells #[.int .i64 t.kind, .int .i64 t.n, .string ⟨t.s.toArray⟩, .slice a1 t.keys.length c1, .slice b1 t.l.length d1] 25)).alloc (.cells #[.int .i64 0, .string ⟨#[]⟩, .string ⟨#[]⟩, .int .i64 0, .int .i64 0, .string ⟨#[]⟩, .slice none 0 0, .slice none 0 0] 43))) := hidI ⟨h2a w _ _, h2b w _ _, bel_trans (bel_alloc _ _) (bel_alloc _ _)⟩
  clear h hG h0
  have T1 := hidI h1
  have T2 := hidI h2
  have HA : Hid (opF t = some ⟨1, p, [], yy⟩) := hidI (by simp [opF, h1, h2, hk, hm])
  have HM := hidI hm
  clear h1 h2 hm
  obtain ⟨u1, hu1⟩ : ∃ u, (textF t opB).getD [] = u := ⟨_, rfl⟩
  obtain ⟨u2, hu2⟩ : ∃ u, (textF t pathB).getD [] = u := ⟨_, rfl⟩
  obtain ⟨kk, hkk⟩ : ∃ k, kindF u1 = k := ⟨_, rfl⟩
  have U1 := hidI hu1
  have U2 := hidI hu2
  have UK := hidI hkk
  clear hu1 hu2 hkk
  have hw : u1 = wd := by rw [← U1.out, T1.out]; rfl
  have hq : u2 = p := by rw [← U2.out, T2.out]; rfl
  have hk9 : kk = 1 := by rw [← UK.out, hw]; exact hk
  subst hk9
  subst hw
  subst hq
  clear hk
  go_enter Tryd.func35, Tryd.ntmps35
  go_upto_region 2 with (go_at_call 58; refine (text_at _ ok t _ opB (by exact H.out.bel K0.out.2.2)).mono ?_; rintro e w1 ⟨rfl, hb⟩; unfold str; have K1 := hidI (K0.out.bel hb); obtain ⟨t0, t1, t2, t3, t4, -⟩ := K1.out.1.c; rw [U1.out, (show (textF t opB).isSome = true by rw [T1.out]; rfl)]; clear hb)
  go_upto_region 3 with (go_at_call 58; refine (text_at _ ok t _ pathB (by exact H.out.bel K1.out.2.2)).mono ?_; rintro e w2 ⟨rfl, hb⟩; unfold str; have K2 := hidI (K1.out.bel hb); clear t0 t1 t2 t3 t4; obtain ⟨t0, t1, t2, t3, t4, -⟩ := K2.out.1.c; rw [U2.out, (show (textF t pathB).isSome = true by rw [T2.out]; rfl)]; clear hb)
  go_upto_region 4 with (go_at_call 59; refine (kindOf_at _ _ (by exact GG.out.bel K2.out.2.2)).mono ?_; rintro e w3 ⟨rfl, hb⟩; have K3 := hidI (K2.out.bel hb); clear t0 t1 t2 t3 t4; obtain ⟨t0, t1, t2, t3, t4, -⟩ := K3.out.1.c; rw [UK.out]; clear hb)
  have N3 : Hid (OBox (w3.alloc (.cells #[.int .i64 1, .string ⟨u2.toArray⟩, .string ⟨#[]⟩, .int .i64 0, .int .i64 0, .string ⟨#[]⟩, .slice none 0 0, .slice none 0 0] 43)) w3.heap.size (.int .i64 1) (.string ⟨u2.toArray⟩) (.string ⟨#[]⟩) (.int .i64 0) (.int .i64 0) (.string ⟨#[]⟩) (.slice none 0 0) (.slice none 0 0)) := hidI (heap_alloc_new w3 _)
  have K4 := hidI (K3.out.bel (bel_alloc w3 (.cells #[.int .i64 1, .string ⟨u2.toArray⟩, .string ⟨#[]⟩, .int .i64 0, .int .i64 0, .string ⟨#[]⟩, .slice none 0 0, .slice none 0 0] 43)))
  have hbig := K3.out.big
  clear t0 t1 t2 t3 t4
  obtain ⟨t0, t1, t2, t3, t4, -⟩ := K4.out.1.c
  go_upto_region 16 with (go_at_call 45; refine (member_is _ ok t _ valueB (by exact H.out.bel K4.out.2.2)).mono ?_; rintro e w5 ⟨xm, bm, rfl, hb, hb2, y, hy, hyz⟩; obtain ⟨a5, b5, c5, d5, rfl⟩ := hy.form; rw [HM.out] at hb2 hyz; simp only [Option.isSome] at hb2; subst hb2; obtain rfl := hyz _ rfl; have Y5 := hidI hy; have K5 := hidI (K4.out.bel hb); have N5 := hidI (N3.out.bel hb); clear t0 t1 t2 t3 t4; obtain ⟨⟨n0, n1, n2, n3, n4, n5, n6, n7⟩, nf⟩ := N5.out.c; have nf3 := nf 3; have nf4 := nf 4; have nf5 := nf 5; have nf6 := nf 6; have nf7 := nf 7; clear nf hb hy hyz)
  obtain ⟨W6, hW6⟩ : ∃ W, (((((w5.setCell ⟨w3.heap.size, 3, none⟩ (.int .i64 y.kind)).setCell ⟨w3.heap.size, 4, none⟩ (.int .i64 y.n)).setCell ⟨w3.heap.size, 5, none⟩ (.string ⟨y.s.toArray⟩)).setCell ⟨w3.heap.size, 6, none⟩ (.slice a5 y.keys.length c5)).setCell ⟨w3.heap.size, 7, none⟩ (.slice b5 y.l.length d5)) = W := ⟨_, rfl⟩
  rw [hW6]
  have g6 : w5.grownBy W6 (some w3.heap.size) := by rw [← hW6]; exact gb_set (gb_set (gb_set (gb_set (gb_set (gb_refl _ _) _ _) _ _) _ _) _ _) _ _
  have K6 := hidI (K5.out.grown g6 (by omega))
  have N6 : Hid (OBox W6 w3.heap.size (.int .i64 1) (.string ⟨u2.toArray⟩) (.string ⟨#[]⟩) (.int .i64 y.kind) (.int .i64 y.n) (.string ⟨y.s.toArray⟩) (.slice a5 y.keys.length c5) (.slice b5 y.l.length d5)) := hidI (by
    rw [← hW6]
    have e := heap_set (heap_set (heap_set (heap_set (heap_set N5.out 3 (.int .i64 y.kind)) 4 (.int .i64 y.n)) 5 (.string ⟨y.s.toArray⟩)) 6 (.slice a5 y.keys.length c5)) 7 (.slice b5 y.l.length d5)
    unfold OBox
    simpa using e)
  have Y6 : Hid (In W6 ok y (.agg #[.int .i64 y.kind, .int .i64 y.n, .string ⟨y.s.toArray⟩, .slice a5 y.keys.length c5, .slice b5 y.l.length d5])) := hidI (Y5.out.grown g6 (fun k hk => by have := H0.out k hk; omega))
  clear hW6 g6 n0 n1 n2 n3 n4 n5 n6 n7 nf3 nf4 nf5 nf6 nf7
  obtain ⟨⟨n0, n1, n2, n3, n4, n5, n6, n7⟩, -⟩ := N6.out.c
  obtain ⟨⟨o0, o1, o2, o3, o4, o5, o6, o7⟩, of⟩ := K6.out.2.1.c
  have f0 := of 0
  have f1 := of 1
  have f2 := of 2
  have f3 := of 3
  have f4 := of 4
  have f5 := of 5
  have f6 := of 6
  have f7 := of 7
  clear of
  have ZB := hidI (K6.out.2.1.set (.int .i64 1) (.string ⟨u2.toArray⟩) (.string ⟨#[]⟩) (.int .i64 y.kind) (.int .i64 y.n) (.string ⟨y.s.toArray⟩) (.slice a5 y.keys.length c5) (.slice b5 y.l.length d5))
  have ZL := hidI (bel_set8 K6.out.2.2 (Nat.le_succ w.heap.size) (.int .i64 1) (.string ⟨u2.toArray⟩) (.string ⟨#[]⟩) (.int .i64 y.kind) (.int .i64 y.n) (.string ⟨y.s.toArray⟩) (.slice a5 y.keys.length c5) (.slice b5 y.l.length d5))
  go_wp2_with fail
  obtain ⟨⟨z0, z1, z2, z3, z4, z5, z6, z7⟩, -⟩ := ZB.out.c
  refine bodyPost_ret (v := .tuple #[.agg #[.int .i64 1, .string ⟨u2.toArray⟩, .string ⟨#[]⟩, .int .i64 y.kind, .int .i64 y.n, .string ⟨y.s.toArray⟩, .slice a5 y.keys.length c5, .slice b5 y.l.length d5], .bool true]) ?_ rfl ?_
  · simp only [set8] at z0 z1 z2 z3 z4 z5 z6 z7
    simp [results, Tryd.results35, go_sem, z0, z1, z2, z3, z4, z5, z6, z7]
  · exact ⟨⟨1, u2, [], y⟩, a5, b5, c5, d5, by rw [HA.out]; rfl, Y6.out.grown (set8_gb _ _ _ _ _ _ _ _ _ _) (fun k hk => by have := H0.out k hk; omega), fun z hz => (by rw [HA.out] at hz; cases hz; rfl), by exact ZL.out⟩
set_option maxRecDepth 100000 in
set_option maxHeartbeats 4000000 in
theorem operation_1n (w : World) (ok : Nat → Prop) (t : V) (v : Value) (h : In w ok t v) (h0 : ∀ k, ok k → k < w.heap.size) (hG : GlobW w) (wd p : List UInt8) (h1 : textF t opB = some wd) (h2 : textF t pathB = some p) (hk : kindF wd = 1) (hm : memV t valueB = none) : Calls Tryd.prog 35 #[v] w (OpP w ok t) := by
  have H := hidI h
  have GG := hidI hG
  have H0 := hidI h0
  obtain ⟨a1, b1, c1, d1, rfl⟩ := h.form
  have K0 : Hid (OD w t a1 b1 c1 d1 ((w.alloc (.cells #[.int .i64 t.kind, .int .i64 t.n, .string ⟨t.s.toArray⟩, .slice a1 t.keys.length c1, .slice b1 t.l.length d1] 25)).alloc (.cells #[.int .i64 0, .string ⟨#[]⟩, .string ⟨#[]⟩, .int .i64 0, .int .i64 0, .string ⟨#[]⟩, .slice none 0 0, .slice none 0 0] 43))) := hidI ⟨h2a w _ _, h2b w _ _, bel_trans (bel_alloc _ _) (bel_alloc _ _)⟩
  clear h hG h0
  have T1 := hidI h1
  have T2 := hidI h2
  have HA : Hid (opF t = none) := hidI (by simp [opF, h1, h2, hk, hm])
  have HM := hidI hm
  clear h1 h2 hm
  obtain ⟨u1, hu1⟩ : ∃ u, (textF t opB).getD [] = u := ⟨_, rfl⟩
  obtain ⟨u2, hu2⟩ : ∃ u, (textF t pathB).getD [] = u := ⟨_, rfl⟩
  obtain ⟨kk, hkk⟩ : ∃ k, kindF u1 = k := ⟨_, rfl⟩
  have U1 := hidI hu1
  have U2 := hidI hu2
  have UK := hidI hkk
  clear hu1 hu2 hkk
  have hw : u1 = wd := by rw [← U1.out, T1.out]; rfl
  have hq : u2 = p := by rw [← U2.out, T2.out]; rfl
  have hk9 : kk = 1 := by rw [← UK.out, hw]; exact hk
  subst hk9
  subst hw
  subst hq
  clear hk
  go_enter Tryd.func35, Tryd.ntmps35
  go_upto_region 2 with (go_at_call 58; refine (text_at _ ok t _ opB (by exact H.out.bel K0.out.2.2)).mono ?_; rintro e w1 ⟨rfl, hb⟩; unfold str; have K1 := hidI (K0.out.bel hb); obtain ⟨t0, t1, t2, t3, t4, -⟩ := K1.out.1.c; rw [U1.out, (show (textF t opB).isSome = true by rw [T1.out]; rfl)]; clear hb)
  go_upto_region 3 with (go_at_call 58; refine (text_at _ ok t _ pathB (by exact H.out.bel K1.out.2.2)).mono ?_; rintro e w2 ⟨rfl, hb⟩; unfold str; have K2 := hidI (K1.out.bel hb); clear t0 t1 t2 t3 t4; obtain ⟨t0, t1, t2, t3, t4, -⟩ := K2.out.1.c; rw [U2.out, (show (textF t pathB).isSome = true by rw [T2.out]; rfl)]; clear hb)
  go_upto_region 4 with (go_at_call 59; refine (kindOf_at _ _ (by exact GG.out.bel K2.out.2.2)).mono ?_; rintro e w3 ⟨rfl, hb⟩; have K3 := hidI (K2.out.bel hb); clear t0 t1 t2 t3 t4; obtain ⟨t0, t1, t2, t3, t4, -⟩ := K3.out.1.c; rw [UK.out]; clear hb)
  have N3 : Hid (OBox (w3.alloc (.cells #[.int .i64 1, .string ⟨u2.toArray⟩, .string ⟨#[]⟩, .int .i64 0, .int .i64 0, .string ⟨#[]⟩, .slice none 0 0, .slice none 0 0] 43)) w3.heap.size (.int .i64 1) (.string ⟨u2.toArray⟩) (.string ⟨#[]⟩) (.int .i64 0) (.int .i64 0) (.string ⟨#[]⟩) (.slice none 0 0) (.slice none 0 0)) := hidI (heap_alloc_new w3 _)
  have K4 := hidI (K3.out.bel (bel_alloc w3 (.cells #[.int .i64 1, .string ⟨u2.toArray⟩, .string ⟨#[]⟩, .int .i64 0, .int .i64 0, .string ⟨#[]⟩, .slice none 0 0, .slice none 0 0] 43)))
  have hbig := K3.out.big
  clear t0 t1 t2 t3 t4
  obtain ⟨t0, t1, t2, t3, t4, -⟩ := K4.out.1.c
  go_upto_region 16 with (go_at_call 45; refine (member_is _ ok t _ valueB (by exact H.out.bel K4.out.2.2)).mono ?_; rintro e w5 ⟨xm, bm, rfl, hb, hb2, y, hy, hyz⟩; obtain ⟨a5, b5, c5, d5, rfl⟩ := hy.form; rw [HM.out] at hb2 hyz; simp only [Option.isSome] at hb2; subst hb2; have Y5 := hidI hy; have K5 := hidI (K4.out.bel hb); have N5 := hidI (N3.out.bel hb); clear t0 t1 t2 t3 t4; obtain ⟨⟨n0, n1, n2, n3, n4, n5, n6, n7⟩, nf⟩ := N5.out.c; have nf3 := nf 3; have nf4 := nf 4; have nf5 := nf 5; have nf6 := nf 6; have nf7 := nf 7; clear nf hb hy hyz)
  obtain ⟨W6, hW6⟩ : ∃ W, (((((w5.setCell ⟨w3.heap.size, 3, none⟩ (.int .i64 y.kind)).setCell ⟨w3.heap.size, 4, none⟩ (.int .i64 y.n)).setCell ⟨w3.heap.size, 5, none⟩ (.string ⟨y.s.toArray⟩)).setCell ⟨w3.heap.size, 6, none⟩ (.slice a5 y.keys.length c5)).setCell ⟨w3.heap.size, 7, none⟩ (.slice b5 y.l.length d5)) = W := ⟨_, rfl⟩
  rw [hW6]
  have g6 : w5.grownBy W6 (some w3.heap.size) := by rw [← hW6]; exact gb_set (gb_set (gb_set (gb_set (gb_set (gb_refl _ _) _ _) _ _) _ _) _ _) _ _
  have K6 := hidI (K5.out.grown g6 (by omega))
  have N6 : Hid (OBox W6 w3.heap.size (.int .i64 1) (.string ⟨u2.toArray⟩) (.string ⟨#[]⟩) (.int .i64 y.kind) (.int .i64 y.n) (.string ⟨y.s.toArray⟩) (.slice a5 y.keys.length c5) (.slice b5 y.l.length d5)) := hidI (by
    rw [← hW6]
    have e := heap_set (heap_set (heap_set (heap_set (heap_set N5.out 3 (.int .i64 y.kind)) 4 (.int .i64 y.n)) 5 (.string ⟨y.s.toArray⟩)) 6 (.slice a5 y.keys.length c5)) 7 (.slice b5 y.l.length d5)
    unfold OBox
    simpa using e)
  have Y6 : Hid (In W6 ok y (.agg #[.int .i64 y.kind, .int .i64 y.n, .string ⟨y.s.toArray⟩, .slice a5 y.keys.length c5, .slice b5 y.l.length d5])) := hidI (Y5.out.grown g6 (fun k hk => by have := H0.out k hk; omega))
  clear hW6 g6 n0 n1 n2 n3 n4 n5 n6 n7 nf3 nf4 nf5 nf6 nf7
  obtain ⟨⟨n0, n1, n2, n3, n4, n5, n6, n7⟩, -⟩ := N6.out.c
  obtain ⟨⟨o0, o1, o2, o3, o4, o5, o6, o7⟩, of⟩ := K6.out.2.1.c
  have f0 := of 0
  have f1 := of 1
  have f2 := of 2
  have f3 := of 3
  have f4 := of 4
  have f5 := of 5
  have f6 := of 6
  have f7 := of 7
  clear of
  have ZB := hidI (K6.out.2.1.set (.int .i64 1) (.string ⟨u2.toArray⟩) (.string ⟨#[]⟩) (.int .i64 y.kind) (.int .i64 y.n) (.string ⟨y.s.toArray⟩) (.slice a5 y.keys.length c5) (.slice b5 y.l.length d5))
  have ZL := hidI (bel_set8 K6.out.2.2 (Nat.le_succ w.heap.size) (.int .i64 1) (.string ⟨u2.toArray⟩) (.string ⟨#[]⟩) (.int .i64 y.kind) (.int .i64 y.n) (.string ⟨y.s.toArray⟩) (.slice a5 y.keys.length c5) (.slice b5 y.l.length d5))
  go_wp2_with fail
  obtain ⟨⟨z0, z1, z2, z3, z4, z5, z6, z7⟩, -⟩ := ZB.out.c
  refine bodyPost_ret (v := .tuple #[.agg #[.int .i64 1, .string ⟨u2.toArray⟩, .string ⟨#[]⟩, .int .i64 y.kind, .int .i64 y.n, .string ⟨y.s.toArray⟩, .slice a5 y.keys.length c5, .slice b5 y.l.length d5], .bool false]) ?_ rfl ?_
  · simp only [set8] at z0 z1 z2 z3 z4 z5 z6 z7
    simp [results, Tryd.results35, go_sem, z0, z1, z2, z3, z4, z5, z6, z7]
  · exact ⟨⟨1, u2, [], y⟩, a5, b5, c5, d5, by rw [HA.out]; rfl, Y6.out.grown (set8_gb _ _ _ _ _ _ _ _ _ _) (fun k hk => by have := H0.out k hk; omega), fun z hz => (by rw [HA.out] at hz; cases hz), by exact ZL.out⟩
set_option maxRecDepth 100000 in
set_option maxHeartbeats 4000000 in
theorem operation_3 (w : World) (ok : Nat → Prop) (t : V) (v : Value) (h : In w ok t v) (h0 : ∀ k, ok k → k < w.heap.size) (hG : GlobW w) (wd p : List UInt8) (h1 : textF t opB = some wd) (h2 : textF t pathB = some p) (hk : kindF wd = 3) (yy : V) (hm : memV t valueB = some yy) : Calls Tryd.prog 35 #[v] w (OpP w ok t) := by
  have H := hidI h
  have GG := hidI hG
  have H0 := hidI h0
  obtain ⟨a1, b1, c1, d1, rfl⟩ := h.form
  have K0 : Hid (OD w t a1 b1 c1 d1 ((w.alloc (.cells #[.int .i64 t.kind, .int .i64 t.n, .string ⟨t.s.toArray⟩, .slice a1 t.keys.length c1, .slice b1 t.l.length d1] 25)).alloc (.cells #[.int .i64 0, .string ⟨#[]⟩, .string ⟨#[]⟩, .int .i64 0, .int .i64 0, .string ⟨#[]⟩, .slice none 0 0, .slice none 0 0] 43))) := hidI ⟨h2a w _ _, h2b w _ _, bel_trans (bel_alloc _ _) (bel_alloc _ _)⟩
  clear h hG h0
  have T1 := hidI h1
  have T2 := hidI h2
  have HA : Hid (opF t = some ⟨3, p, [], yy⟩) := hidI (by simp [opF, h1, h2, hk, hm])
  have HM := hidI hm
  clear h1 h2 hm
  obtain ⟨u1, hu1⟩ : ∃ u, (textF t opB).getD [] = u := ⟨_, rfl⟩
  obtain ⟨u2, hu2⟩ : ∃ u, (textF t pathB).getD [] = u := ⟨_, rfl⟩
  obtain ⟨kk, hkk⟩ : ∃ k, kindF u1 = k := ⟨_, rfl⟩
  have U1 := hidI hu1
  have U2 := hidI hu2
  have UK := hidI hkk
  clear hu1 hu2 hkk
  have hw : u1 = wd := by rw [← U1.out, T1.out]; rfl
  have hq : u2 = p := by rw [← U2.out, T2.out]; rfl
  have hk9 : kk = 3 := by rw [← UK.out, hw]; exact hk
  subst hk9
  subst hw
  subst hq
  clear hk
  go_enter Tryd.func35, Tryd.ntmps35
  go_upto_region 2 with (go_at_call 58; refine (text_at _ ok t _ opB (by exact H.out.bel K0.out.2.2)).mono ?_; rintro e w1 ⟨rfl, hb⟩; unfold str; have K1 := hidI (K0.out.bel hb); obtain ⟨t0, t1, t2, t3, t4, -⟩ := K1.out.1.c; rw [U1.out, (show (textF t opB).isSome = true by rw [T1.out]; rfl)]; clear hb)
  go_upto_region 3 with (go_at_call 58; refine (text_at _ ok t _ pathB (by exact H.out.bel K1.out.2.2)).mono ?_; rintro e w2 ⟨rfl, hb⟩; unfold str; have K2 := hidI (K1.out.bel hb); clear t0 t1 t2 t3 t4; obtain ⟨t0, t1, t2, t3, t4, -⟩ := K2.out.1.c; rw [U2.out, (show (textF t pathB).isSome = true by rw [T2.out]; rfl)]; clear hb)
  go_upto_region 4 with (go_at_call 59; refine (kindOf_at _ _ (by exact GG.out.bel K2.out.2.2)).mono ?_; rintro e w3 ⟨rfl, hb⟩; have K3 := hidI (K2.out.bel hb); clear t0 t1 t2 t3 t4; obtain ⟨t0, t1, t2, t3, t4, -⟩ := K3.out.1.c; rw [UK.out]; clear hb)
  have N3 : Hid (OBox (w3.alloc (.cells #[.int .i64 3, .string ⟨u2.toArray⟩, .string ⟨#[]⟩, .int .i64 0, .int .i64 0, .string ⟨#[]⟩, .slice none 0 0, .slice none 0 0] 43)) w3.heap.size (.int .i64 3) (.string ⟨u2.toArray⟩) (.string ⟨#[]⟩) (.int .i64 0) (.int .i64 0) (.string ⟨#[]⟩) (.slice none 0 0) (.slice none 0 0)) := hidI (heap_alloc_new w3 _)
  have K4 := hidI (K3.out.bel (bel_alloc w3 (.cells #[.int .i64 3, .string ⟨u2.toArray⟩, .string ⟨#[]⟩, .int .i64 0, .int .i64 0, .string ⟨#[]⟩, .slice none 0 0, .slice none 0 0] 43)))
  have hbig := K3.out.big
  clear t0 t1 t2 t3 t4
  obtain ⟨t0, t1, t2, t3, t4, -⟩ := K4.out.1.c
  go_upto_region 16 with (go_at_call 45; refine (member_is _ ok t _ valueB (by exact H.out.bel K4.out.2.2)).mono ?_; rintro e w5 ⟨xm, bm, rfl, hb, hb2, y, hy, hyz⟩; obtain ⟨a5, b5, c5, d5, rfl⟩ := hy.form; rw [HM.out] at hb2 hyz; simp only [Option.isSome] at hb2; subst hb2; obtain rfl := hyz _ rfl; have Y5 := hidI hy; have K5 := hidI (K4.out.bel hb); have N5 := hidI (N3.out.bel hb); clear t0 t1 t2 t3 t4; obtain ⟨⟨n0, n1, n2, n3, n4, n5, n6, n7⟩, nf⟩ := N5.out.c; have nf3 := nf 3; have nf4 := nf 4; have nf5 := nf 5; have nf6 := nf 6; have nf7 := nf 7; clear nf hb hy hyz)
  obtain ⟨W6, hW6⟩ : ∃ W, (((((w5.setCell ⟨w3.heap.size, 3, none⟩ (.int .i64 y.kind)).setCell ⟨w3.heap.size, 4, none⟩ (.int .i64 y.n)).setCell ⟨w3.heap.size, 5, none⟩ (.string ⟨y.s.toArray⟩)).setCell ⟨w3.heap.size, 6, none⟩ (.slice a5 y.keys.length c5)).setCell ⟨w3.heap.size, 7, none⟩ (.slice b5 y.l.length d5)) = W := ⟨_, rfl⟩
  rw [hW6]
  have g6 : w5.grownBy W6 (some w3.heap.size) := by rw [← hW6]; exact gb_set (gb_set (gb_set (gb_set (gb_set (gb_refl _ _) _ _) _ _) _ _) _ _) _ _
  have K6 := hidI (K5.out.grown g6 (by omega))
  have N6 : Hid (OBox W6 w3.heap.size (.int .i64 3) (.string ⟨u2.toArray⟩) (.string ⟨#[]⟩) (.int .i64 y.kind) (.int .i64 y.n) (.string ⟨y.s.toArray⟩) (.slice a5 y.keys.length c5) (.slice b5 y.l.length d5)) := hidI (by
    rw [← hW6]
    have e := heap_set (heap_set (heap_set (heap_set (heap_set N5.out 3 (.int .i64 y.kind)) 4 (.int .i64 y.n)) 5 (.string ⟨y.s.toArray⟩)) 6 (.slice a5 y.keys.length c5)) 7 (.slice b5 y.l.length d5)
    unfold OBox
    simpa using e)
  have Y6 : Hid (In W6 ok y (.agg #[.int .i64 y.kind, .int .i64 y.n, .string ⟨y.s.toArray⟩, .slice a5 y.keys.length c5, .slice b5 y.l.length d5])) := hidI (Y5.out.grown g6 (fun k hk => by have := H0.out k hk; omega))
  clear hW6 g6 n0 n1 n2 n3 n4 n5 n6 n7 nf3 nf4 nf5 nf6 nf7
  obtain ⟨⟨n0, n1, n2, n3, n4, n5, n6, n7⟩, -⟩ := N6.out.c
  obtain ⟨⟨o0, o1, o2, o3, o4, o5, o6, o7⟩, of⟩ := K6.out.2.1.c
  have f0 := of 0
  have f1 := of 1
  have f2 := of 2
  have f3 := of 3
  have f4 := of 4
  have f5 := of 5
  have f6 := of 6
  have f7 := of 7
  clear of
  have ZB := hidI (K6.out.2.1.set (.int .i64 3) (.string ⟨u2.toArray⟩) (.string ⟨#[]⟩) (.int .i64 y.kind) (.int .i64 y.n) (.string ⟨y.s.toArray⟩) (.slice a5 y.keys.length c5) (.slice b5 y.l.length d5))
  have ZL := hidI (bel_set8 K6.out.2.2 (Nat.le_succ w.heap.size) (.int .i64 3) (.string ⟨u2.toArray⟩) (.string ⟨#[]⟩) (.int .i64 y.kind) (.int .i64 y.n) (.string ⟨y.s.toArray⟩) (.slice a5 y.keys.length c5) (.slice b5 y.l.length d5))
  go_wp2_with fail
  obtain ⟨⟨z0, z1, z2, z3, z4, z5, z6, z7⟩, -⟩ := ZB.out.c
  refine bodyPost_ret (v := .tuple #[.agg #[.int .i64 3, .string ⟨u2.toArray⟩, .string ⟨#[]⟩, .int .i64 y.kind, .int .i64 y.n, .string ⟨y.s.toArray⟩, .slice a5 y.keys.length c5, .slice b5 y.l.length d5], .bool true]) ?_ rfl ?_
  · simp only [set8] at z0 z1 z2 z3 z4 z5 z6 z7
    simp [results, Tryd.results35, go_sem, z0, z1, z2, z3, z4, z5, z6, z7]
  · exact ⟨⟨3, u2, [], y⟩, a5, b5, c5, d5, by rw [HA.out]; rfl, Y6.out.grown (set8_gb _ _ _ _ _ _ _ _ _ _) (fun k hk => by have := H0.out k hk; omega), fun z hz => (by rw [HA.out] at hz; cases hz; rfl), by exact ZL.out⟩
set_option maxRecDepth 100000 in
set_option maxHeartbeats 4000000 in
theorem operation_3n (w : World) (ok : Nat → Prop) (t : V) (v : Value) (h : In w ok t v) (h0 : ∀ k, ok k → k < w.heap.size) (hG : GlobW w) (wd p : List UInt8) (h1 : textF t opB = some wd) (h2 : textF t pathB = some p) (hk : kindF wd = 3) (hm : memV t valueB = none) : Calls Tryd.prog 35 #[v] w (OpP w ok t) := by
  have H := hidI h
  have GG := hidI hG
  have H0 := hidI h0
  obtain ⟨a1, b1, c1, d1, rfl⟩ := h.form
  have K0 : Hid (OD w t a1 b1 c1 d1 ((w.alloc (.cells #[.int .i64 t.kind, .int .i64 t.n, .string ⟨t.s.toArray⟩, .slice a1 t.keys.length c1, .slice b1 t.l.length d1] 25)).alloc (.cells #[.int .i64 0, .string ⟨#[]⟩, .string ⟨#[]⟩, .int .i64 0, .int .i64 0, .string ⟨#[]⟩, .slice none 0 0, .slice none 0 0] 43))) := hidI ⟨h2a w _ _, h2b w _ _, bel_trans (bel_alloc _ _) (bel_alloc _ _)⟩
  clear h hG h0
  have T1 := hidI h1
  have T2 := hidI h2
  have HA : Hid (opF t = none) := hidI (by simp [opF, h1, h2, hk, hm])
  have HM := hidI hm
  clear h1 h2 hm
  obtain ⟨u1, hu1⟩ : ∃ u, (textF t opB).getD [] = u := ⟨_, rfl⟩
  obtain ⟨u2, hu2⟩ : ∃ u, (textF t pathB).getD [] = u := ⟨_, rfl⟩
  obtain ⟨kk, hkk⟩ : ∃ k, kindF u1 = k := ⟨_, rfl⟩
  have U1 := hidI hu1
  have U2 := hidI hu2
  have UK := hidI hkk
  clear hu1 hu2 hkk
  have hw : u1 = wd := by rw [← U1.out, T1.out]; rfl
  have hq : u2 = p := by rw [← U2.out, T2.out]; rfl
  have hk9 : kk = 3 := by rw [← UK.out, hw]; exact hk
  subst hk9
  subst hw
  subst hq
  clear hk
  go_enter Tryd.func35, Tryd.ntmps35
  go_upto_region 2 with (go_at_call 58; refine (text_at _ ok t _ opB (by exact H.out.bel K0.out.2.2)).mono ?_; rintro e w1 ⟨rfl, hb⟩; unfold str; have K1 := hidI (K0.out.bel hb); obtain ⟨t0, t1, t2, t3, t4, -⟩ := K1.out.1.c; rw [U1.out, (show (textF t opB).isSome = true by rw [T1.out]; rfl)]; clear hb)
  go_upto_region 3 with (go_at_call 58; refine (text_at _ ok t _ pathB (by exact H.out.bel K1.out.2.2)).mono ?_; rintro e w2 ⟨rfl, hb⟩; unfold str; have K2 := hidI (K1.out.bel hb); clear t0 t1 t2 t3 t4; obtain ⟨t0, t1, t2, t3, t4, -⟩ := K2.out.1.c; rw [U2.out, (show (textF t pathB).isSome = true by rw [T2.out]; rfl)]; clear hb)
  go_upto_region 4 with (go_at_call 59; refine (kindOf_at _ _ (by exact GG.out.bel K2.out.2.2)).mono ?_; rintro e w3 ⟨rfl, hb⟩; have K3 := hidI (K2.out.bel hb); clear t0 t1 t2 t3 t4; obtain ⟨t0, t1, t2, t3, t4, -⟩ := K3.out.1.c; rw [UK.out]; clear hb)
  have N3 : Hid (OBox (w3.alloc (.cells #[.int .i64 3, .string ⟨u2.toArray⟩, .string ⟨#[]⟩, .int .i64 0, .int .i64 0, .string ⟨#[]⟩, .slice none 0 0, .slice none 0 0] 43)) w3.heap.size (.int .i64 3) (.string ⟨u2.toArray⟩) (.string ⟨#[]⟩) (.int .i64 0) (.int .i64 0) (.string ⟨#[]⟩) (.slice none 0 0) (.slice none 0 0)) := hidI (heap_alloc_new w3 _)
  have K4 := hidI (K3.out.bel (bel_alloc w3 (.cells #[.int .i64 3, .string ⟨u2.toArray⟩, .string ⟨#[]⟩, .int .i64 0, .int .i64 0, .string ⟨#[]⟩, .slice none 0 0, .slice none 0 0] 43)))
  have hbig := K3.out.big
  clear t0 t1 t2 t3 t4
  obtain ⟨t0, t1, t2, t3, t4, -⟩ := K4.out.1.c
  go_upto_region 16 with (go_at_call 45; refine (member_is _ ok t _ valueB (by exact H.out.bel K4.out.2.2)).mono ?_; rintro e w5 ⟨xm, bm, rfl, hb, hb2, y, hy, hyz⟩; obtain ⟨a5, b5, c5, d5, rfl⟩ := hy.form; rw [HM.out] at hb2 hyz; simp only [Option.isSome] at hb2; subst hb2; have Y5 := hidI hy; have K5 := hidI (K4.out.bel hb); have N5 := hidI (N3.out.bel hb); clear t0 t1 t2 t3 t4; obtain ⟨⟨n0, n1, n2, n3, n4, n5, n6, n7⟩, nf⟩ := N5.out.c; have nf3 := nf 3; have nf4 := nf 4; have nf5 := nf 5; have nf6 := nf 6; have nf7 := nf 7; clear nf hb hy hyz)
  obtain ⟨W6, hW6⟩ : ∃ W, (((((w5.setCell ⟨w3.heap.size, 3, none⟩ (.int .i64 y.kind)).setCell ⟨w3.heap.size, 4, none⟩ (.int .i64 y.n)).setCell ⟨w3.heap.size, 5, none⟩ (.string ⟨y.s.toArray⟩)).setCell ⟨w3.heap.size, 6, none⟩ (.slice a5 y.keys.length c5)).setCell ⟨w3.heap.size, 7, none⟩ (.slice b5 y.l.length d5)) = W := ⟨_, rfl⟩
  rw [hW6]
  have g6 : w5.grownBy W6 (some w3.heap.size) := by rw [← hW6]; exact gb_set (gb_set (gb_set (gb_set (gb_set (gb_refl _ _) _ _) _ _) _ _) _ _) _ _
  have K6 := hidI (K5.out.grown g6 (by omega))
  have N6 : Hid (OBox W6 w3.heap.size (.int .i64 3) (.string ⟨u2.toArray⟩) (.string ⟨#[]⟩) (.int .i64 y.kind) (.int .i64 y.n) (.string ⟨y.s.toArray⟩) (.slice a5 y.keys.length c5) (.slice b5 y.l.length d5)) := hidI (by
    rw [← hW6]
    have e := heap_set (heap_set (heap_set (heap_set (heap_set N5.out 3 (.int .i64 y.kind)) 4 (.int .i64 y.n)) 5 (.string ⟨y.s.toArray⟩)) 6 (.slice a5 y.keys.length c5)) 7 (.slice b5 y.l.length d5)
    unfold OBox
    simpa using e)
  have Y6 : Hid (In W6 ok y (.agg #[.int .i64 y.kind, .int .i64 y.n, .string ⟨y.s.toArray⟩, .slice a5 y.keys.length c5, .slice b5 y.l.length d5])) := hidI (Y5.out.grown g6 (fun k hk => by have := H0.out k hk; omega))
  clear hW6 g6 n0 n1 n2 n3 n4 n5 n6 n7 nf3 nf4 nf5 nf6 nf7
  obtain ⟨⟨n0, n1, n2, n3, n4, n5, n6, n7⟩, -⟩ := N6.out.c
  obtain ⟨⟨o0, o1, o2, o3, o4, o5, o6, o7⟩, of⟩ := K6.out.2.1.c
  have f0 := of 0
  have f1 := of 1
  have f2 := of 2
  have f3 := of 3
  have f4 := of 4
  have f5 := of 5
  have f6 := of 6
  have f7 := of 7
  clear of
  have ZB := hidI (K6.out.2.1.set (.int .i64 3) (.string ⟨u2.toArray⟩) (.string ⟨#[]⟩) (.int .i64 y.kind) (.int .i64 y.n) (.string ⟨y.s.toArray⟩) (.slice a5 y.keys.length c5) (.slice b5 y.l.length d5))
  have ZL := hidI (bel_set8 K6.out.2.2 (Nat.le_succ w.heap.size) (.int .i64 3) (.string ⟨u2.toArray⟩) (.string ⟨#[]⟩) (.int .i64 y.kind) (.int .i64 y.n) (.string ⟨y.s.toArray⟩) (.slice a5 y.keys.length c5) (.slice b5 y.l.length d5))
  go_wp2_with fail
  obtain ⟨⟨z0, z1, z2, z3, z4, z5, z6, z7⟩, -⟩ := ZB.out.c
  refine bodyPost_ret (v := .tuple #[.agg #[.int .i64 3, .string ⟨u2.toArray⟩, .string ⟨#[]⟩, .int .i64 y.kind, .int .i64 y.n, .string ⟨y.s.toArray⟩, .slice a5 y.keys.length c5, .slice b5 y.l.length d5], .bool false]) ?_ rfl ?_
  · simp only [set8] at z0 z1 z2 z3 z4 z5 z6 z7
    simp [results, Tryd.results35, go_sem, z0, z1, z2, z3, z4, z5, z6, z7]
  · exact ⟨⟨3, u2, [], y⟩, a5, b5, c5, d5, by rw [HA.out]; rfl, Y6.out.grown (set8_gb _ _ _ _ _ _ _ _ _ _) (fun k hk => by have := H0.out k hk; omega), fun z hz => (by rw [HA.out] at hz; cases hz), by exact ZL.out⟩
set_option maxRecDepth 100000 in
set_option maxHeartbeats 4000000 in
theorem operation_6 (w : World) (ok : Nat → Prop) (t : V) (v : Value) (h : In w ok t v) (h0 : ∀ k, ok k → k < w.heap.size) (hG : GlobW w) (wd p : List UInt8) (h1 : textF t opB = some wd) (h2 : textF t pathB = some p) (hk : kindF wd = 6) (yy : V) (hm : memV t valueB = some yy) : Calls Tryd.prog 35 #[v] w (OpP w ok t) := by
  have H := hidI h
  have GG := hidI hG
  have H0 := hidI h0
  obtain ⟨a1, b1, c1, d1, rfl⟩ := h.form
  have K0 : Hid (OD w t a1 b1 c1 d1 ((w.alloc (.cells #[.int .i64 t.kind, .int .i64 t.n, .string ⟨t.s.toArray⟩, .slice a1 t.keys.length c1, .slice b1 t.l.length d1] 25)).alloc (.cells #[.int .i64 0, .string ⟨#[]⟩, .string ⟨#[]⟩, .int .i64 0, .int .i64 0, .string ⟨#[]⟩, .slice none 0 0, .slice none 0 0] 43))) := hidI ⟨h2a w _ _, h2b w _ _, bel_trans (bel_alloc _ _) (bel_alloc _ _)⟩
  clear h hG h0
  have T1 := hidI h1
  have T2 := hidI h2
  have HA : Hid (opF t = some ⟨6, p, [], yy⟩) := hidI (by simp [opF, h1, h2, hk, hm])
  have HM := hidI hm
  clear h1 h2 hm
  obtain ⟨u1, hu1⟩ : ∃ u, (textF t opB).getD [] = u := ⟨_, rfl⟩
  obtain ⟨u2, hu2⟩ : ∃ u, (textF t pathB).getD [] = u := ⟨_, rfl⟩
  obtain ⟨kk, hkk⟩ : ∃ k, kindF u1 = k := ⟨_, rfl⟩
  have U1 := hidI hu1
  have U2 := hidI hu2
  have UK := hidI hkk
  clear hu1 hu2 hkk
  have hw : u1 = wd := by rw [← U1.out, T1.out]; rfl
  have hq : u2 = p := by rw [← U2.out, T2.out]; rfl
  have hk9 : kk = 6 := by rw [← UK.out, hw]; exact hk
  subst hk9
  subst hw
  subst hq
  clear hk
  go_enter Tryd.func35, Tryd.ntmps35
  go_upto_region 2 with (go_at_call 58; refine (text_at _ ok t _ opB (by exact H.out.bel K0.out.2.2)).mono ?_; rintro e w1 ⟨rfl, hb⟩; unfold str; have K1 := hidI (K0.out.bel hb); obtain ⟨t0, t1, t2, t3, t4, -⟩ := K1.out.1.c; rw [U1.out, (show (textF t opB).isSome = true by rw [T1.out]; rfl)]; clear hb)
  go_upto_region 3 with (go_at_call 58; refine (text_at _ ok t _ pathB (by exact H.out.bel K1.out.2.2)).mono ?_; rintro e w2 ⟨rfl, hb⟩; unfold str; have K2 := hidI (K1.out.bel hb); clear t0 t1 t2 t3 t4; obtain ⟨t0, t1, t2, t3, t4, -⟩ := K2.out.1.c; rw [U2.out, (show (textF t pathB).isSome = true by rw [T2.out]; rfl)]; clear hb)
  go_upto_region 4 with (go_at_call 59; refine (kindOf_at _ _ (by exact GG.out.bel K2.out.2.2)).mono ?_; rintro e w3 ⟨rfl, hb⟩; have K3 := hidI (K2.out.bel hb); clear t0 t1 t2 t3 t4; obtain ⟨t0, t1, t2, t3, t4, -⟩ := K3.out.1.c; rw [UK.out]; clear hb)
  have N3 : Hid (OBox (w3.alloc (.cells #[.int .i64 6, .string ⟨u2.toArray⟩, .string ⟨#[]⟩, .int .i64 0, .int .i64 0, .string ⟨#[]⟩, .slice none 0 0, .slice none 0 0] 43)) w3.heap.size (.int .i64 6) (.string ⟨u2.toArray⟩) (.string ⟨#[]⟩) (.int .i64 0) (.int .i64 0) (.string ⟨#[]⟩) (.slice none 0 0) (.slice none 0 0)) := hidI (heap_alloc_new w3 _)
  have K4 := hidI (K3.out.bel (bel_alloc w3 (.cells #[.int .i64 6, .string ⟨u2.toArray⟩, .string ⟨#[]⟩, .int .i64 0, .int .i64 0, .string ⟨#[]⟩, .slice none 0 0, .slice none 0 0] 43)))
  have hbig := K3.out.big
  clear t0 t1 t2 t3 t4
  obtain ⟨t0, t1, t2, t3, t4, -⟩ := K4.out.1.c
  go_upto_region 16 with (go_at_call 45; refine (member_is _ ok t _ valueB (by exact H.out.bel K4.out.2.2)).mono ?_; rintro e w5 ⟨xm, bm, rfl, hb, hb2, y, hy, hyz⟩; obtain ⟨a5, b5, c5, d5, rfl⟩ := hy.form; rw [HM.out] at hb2 hyz; simp only [Option.isSome] at hb2; subst hb2; obtain rfl := hyz _ rfl; have Y5 := hidI hy; have K5 := hidI (K4.out.bel hb); have N5 := hidI (N3.out.bel hb); clear t0 t1 t2 t3 t4; obtain ⟨⟨n0, n1, n2, n3, n4, n5, n6, n7⟩, nf⟩ := N5.out.c; have nf3 := nf 3; have nf4 := nf 4; have nf5 := nf 5; have nf6 := nf 6; have nf7 := nf 7; clear nf hb hy hyz)
  obtain ⟨W6, hW6⟩ : ∃ W, (((((w5.setCell ⟨w3.heap.size, 3, none⟩ (.int .i64 y.kind)).setCell ⟨w3.heap.size, 4, none⟩ (.int .i64 y.n)).setCell ⟨w3.heap.size, 5, none⟩ (.string ⟨y.s.toArray⟩)).setCell ⟨w3.heap.size, 6, none⟩ (.slice a5 y.keys.length c5)).setCell ⟨w3.heap.size, 7, none⟩ (.slice b5 y.l.length d5)) = W := ⟨_, rfl⟩
  rw [hW6]
  have g6 : w5.grownBy W6 (some w3.heap.size) := by rw [← hW6]; exact gb_set (gb_set (gb_set (gb_set (gb_set (gb_refl _ _) _ _) _ _) _ _) _ _) _ _
  have K6 := hidI (K5.out.grown g6 (by omega))
  have N6 : Hid (OBox W6 w3.heap.size (.int .i64 6) (.string ⟨u2.toArray⟩) (.string ⟨#[]⟩) (.int .i64 y.kind) (.int .i64 y.n) (.string ⟨y.s.toArray⟩) (.slice a5 y.keys.length c5) (.slice b5 y.l.length d5)) := hidI (by
    rw [← hW6]
    have e := heap_set (heap_set (heap_set (heap_set (heap_set N5.out 3 (.int .i64 y.kind)) 4 (.int .i64 y.n)) 5 (.string ⟨y.s.toArray⟩)) 6 (.slice a5 y.keys.length c5)) 7 (.slice b5 y.l.length d5)
    unfold OBox
    simpa using e)
  have Y6 : Hid (In W6 ok y (.agg #[.int .i64 y.kind, .int .i64 y.n, .string ⟨y.s.toArray⟩, .slice a5 y.keys.length c5, .slice b5 y.l.length d5])) := hidI (Y5.out.grown g6 (fun k hk => by have := H0.out k hk; omega))
  clear hW6 g6 n0 n1 n2 n3 n4 n5 n6 n7 nf3 nf4 nf5 nf6 nf7
  obtain ⟨⟨n0, n1, n2, n3, n4, n5, n6, n7⟩, -⟩ := N6.out.c
  obtain ⟨⟨o0, o1, o2, o3, o4, o5, o6, o7⟩, of⟩ := K6.out.2.1.c
  have f0 := of 0
  have f1 := of 1
  have f2 := of 2
  have f3 := of 3
  have f4 := of 4
  have f5 := of 5
  have f6 := of 6
  have f7 := of 7
  clear of
  have ZB := hidI (K6.out.2.1.set (.int .i64 6) (.string ⟨u2.toArray⟩) (.string ⟨#[]⟩) (.int .i64 y.kind) (.int .i64 y.n) (.string ⟨y.s.toArray⟩) (.slice a5 y.keys.length c5) (.slice b5 y.l.length d5))
  have ZL := hidI (bel_set8 K6.out.2.2 (Nat.le_succ w.heap.size) (.int .i64 6) (.string ⟨u2.toArray⟩) (.string ⟨#[]⟩) (.int .i64 y.kind) (.int .i64 y.n) (.string ⟨y.s.toArray⟩) (.slice a5 y.keys.length c5) (.slice b5 y.l.length d5))
  go_wp2_with fail
  obtain ⟨⟨z0, z1, z2, z3, z4, z5, z6, z7⟩, -⟩ := ZB.out.c
  refine bodyPost_ret (v := .tuple #[.agg #[.int .i64 6, .string ⟨u2.toArray⟩, .string ⟨#[]⟩, .int .i64 y.kind, .int .i64 y.n, .string ⟨y.s.toArray⟩, .slice a5 y.keys.length c5, .slice b5 y.l.length d5], .bool true]) ?_ rfl ?_
  · simp only [set8] at z0 z1 z2 z3 z4 z5 z6 z7
    simp [results, Tryd.results35, go_sem, z0, z1, z2, z3, z4, z5, z6, z7]
  · exact ⟨⟨6, u2, [], y⟩, a5, b5, c5, d5, by rw [HA.out]; rfl, Y6.out.grown (set8_gb _ _ _ _ _ _ _ _ _ _) (fun k hk => by have := H0.out k hk; omega), fun z hz => (by rw [HA.out] at hz; cases hz; rfl), by exact ZL.out⟩
set_option maxRecDepth 100000 in
set_option maxHeartbeats 4000000 in
theorem operation_6n (w : World) (ok : Nat → Prop) (t : V) (v : Value) (h : In w ok t v) (h0 : ∀ k, ok k → k < w.heap.size) (hG : GlobW w) (wd p : List UInt8) (h1 : textF t opB = some wd) (h2 : textF t pathB = some p) (hk : kindF wd = 6) (hm : memV t valueB = none) : Calls Tryd.prog 35 #[v] w (OpP w ok t) := by
  have H := hidI h
  have GG := hidI hG
  have H0 := hidI h0
  obtain ⟨a1, b1, c1, d1, rfl⟩ := h.form
  have K0 : Hid (OD w t a1 b1 c1 d1 ((w.alloc (.cells #[.int .i64 t.kind, .int .i64 t.n, .string ⟨t.s.toArray⟩, .slice a1 t.keys.length c1, .slice b1 t.l.length d1] 25)).alloc (.cells #[.int .i64 0, .string ⟨#[]⟩, .string ⟨#[]⟩, .int .i64 0, .int .i64 0, .string ⟨#[]⟩, .slice none 0 0, .slice none 0 0] 43))) := hidI ⟨h2a w _ _, h2b w _ _, bel_trans (bel_alloc _ _) (bel_alloc _ _)⟩
  clear h hG h0
  have T1 := hidI h1
  have T2 := hidI h2
  have HA : Hid (opF t = none) := hidI (by simp [opF, h1, h2, hk, hm])
  have HM := hidI hm
  clear h1 h2 hm
  obtain ⟨u1, hu1⟩ : ∃ u, (textF t opB).getD [] = u := ⟨_, rfl⟩
  obtain ⟨u2, hu2⟩ : ∃ u, (textF t pathB).getD [] = u := ⟨_, rfl⟩
  obtain ⟨kk, hkk⟩ : ∃ k, kindF u1 = k := ⟨_, rfl⟩
  have U1 := hidI hu1
  have U2 := hidI hu2
  have UK := hidI hkk
  clear hu1 hu2 hkk
  have hw : u1 = wd := by rw [← U1.out, T1.out]; rfl
  have hq : u2 = p := by rw [← U2.out, T2.out]; rfl
  have hk9 : kk = 6 := by rw [← UK.out, hw]; exact hk
  subst hk9
  subst hw
  subst hq
  clear hk
  go_enter Tryd.func35, Tryd.ntmps35
  go_upto_region 2 with (go_at_call 58; refine (text_at _ ok t _ opB (by exact H.out.bel K0.out.2.2)).mono ?_; rintro e w1 ⟨rfl, hb⟩; unfold str; have K1 := hidI (K0.out.bel hb); obtain ⟨t0, t1, t2, t3, t4, -⟩ := K1.out.1.c; rw [U1.out, (show (textF t opB).isSome = true by rw [T1.out]; rfl)]; clear hb)
  go_upto_region 3 with (go_at_call 58; refine (text_at _ ok t _ pathB (by exact H.out.bel K1.out.2.2)).mono ?_; rintro e w2 ⟨rfl, hb⟩; unfold str; have K2 := hidI (K1.out.bel hb); clear t0 t1 t2 t3 t4; obtain ⟨t0, t1, t2, t3, t4, -⟩ := K2.out.1.c; rw [U2.out, (show (textF t pathB).isSome = true by rw [T2.out]; rfl)]; clear hb)
  go_upto_region 4 with (go_at_call 59; refine (kindOf_at _ _ (by exact GG.out.bel K2.out.2.2)).mono ?_; rintro e w3 ⟨rfl, hb⟩; have K3 := hidI (K2.out.bel hb); clear t0 t1 t2 t3 t4; obtain ⟨t0, t1, t2, t3, t4, -⟩ := K3.out.1.c; rw [UK.out]; clear hb)
  have N3 : Hid (OBox (w3.alloc (.cells #[.int .i64 6, .string ⟨u2.toArray⟩, .string ⟨#[]⟩, .int .i64 0, .int .i64 0, .string ⟨#[]⟩, .slice none 0 0, .slice none 0 0] 43)) w3.heap.size (.int .i64 6) (.string ⟨u2.toArray⟩) (.string ⟨#[]⟩) (.int .i64 0) (.int .i64 0) (.string ⟨#[]⟩) (.slice none 0 0) (.slice none 0 0)) := hidI (heap_alloc_new w3 _)
  have K4 := hidI (K3.out.bel (bel_alloc w3 (.cells #[.int .i64 6, .string ⟨u2.toArray⟩, .string ⟨#[]⟩, .int .i64 0, .int .i64 0, .string ⟨#[]⟩, .slice none 0 0, .slice none 0 0] 43)))
  have hbig := K3.out.big
  clear t0 t1 t2 t3 t4
  obtain ⟨t0, t1, t2, t3, t4, -⟩ := K4.out.1.c
  go_upto_region 16 with (go_at_call 45; refine (member_is _ ok t _ valueB (by exact H.out.bel K4.out.2.2)).mono ?_; rintro e w5 ⟨xm, bm, rfl, hb, hb2, y, hy, hyz⟩; obtain ⟨a5, b5, c5, d5, rfl⟩ := hy.form; rw [HM.out] at hb2 hyz; simp only [Option.isSome] at hb2; subst hb2; have Y5 := hidI hy; have K5 := hidI (K4.out.bel hb); have N5 := hidI (N3.out.bel hb); clear t0 t1 t2 t3 t4; obtain ⟨⟨n0, n1, n2, n3, n4, n5, n6, n7⟩, nf⟩ := N5.out.c; have nf3 := nf 3; have nf4 := nf 4; have nf5 := nf 5; have nf6 := nf 6; have nf7 := nf 7; clear nf hb hy hyz)
  obtain ⟨W6, hW6⟩ : ∃ W, (((((w5.setCell ⟨w3.heap.size, 3, none⟩ (.int .i64 y.kind)).setCell ⟨w3.heap.size, 4, none⟩ (.int .i64 y.n)).setCell ⟨w3.heap.size, 5, none⟩ (.string ⟨y.s.toArray⟩)).setCell ⟨w3.heap.size, 6, none⟩ (.slice a5 y.keys.length c5)).setCell ⟨w3.heap.size, 7, none⟩ (.slice b5 y.l.length d5)) = W := ⟨_, rfl⟩
  rw [hW6]
  have g6 : w5.grownBy W6 (some w3.heap.size) := by rw [← hW6]; exact gb_set (gb_set (gb_set (gb_set (gb_set (gb_refl _ _) _ _) _ _) _ _) _ _) _ _
  have K6 := hidI (K5.out.grown g6 (by omega))
  have N6 : Hid (OBox W6 w3.heap.size (.int .i64 6) (.string ⟨u2.toArray⟩) (.string ⟨#[]⟩) (.int .i64 y.kind) (.int .i64 y.n) (.string ⟨y.s.toArray⟩) (.slice a5 y.keys.length c5) (.slice b5 y.l.length d5)) := hidI (by
    rw [← hW6]
    have e := heap_set (heap_set (heap_set (heap_set (heap_set N5.out 3 (.int .i64 y.kind)) 4 (.int .i64 y.n)) 5 (.string ⟨y.s.toArray⟩)) 6 (.slice a5 y.keys.length c5)) 7 (.slice b5 y.l.length d5)
    unfold OBox
    simpa using e)
  have Y6 : Hid (In W6 ok y (.agg #[.int .i64 y.kind, .int .i64 y.n, .string ⟨y.s.toArray⟩, .slice a5 y.keys.length c5, .slice b5 y.l.length d5])) := hidI (Y5.out.grown g6 (fun k hk => by have := H0.out k hk; omega))
  clear hW6 g6 n0 n1 n2 n3 n4 n5 n6 n7 nf3 nf4 nf5 nf6 nf7
  obtain ⟨⟨n0, n1, n2, n3, n4, n5, n6, n7⟩, -⟩ := N6.out.c
  obtain ⟨⟨o0, o1, o2, o3, o4, o5, o6, o7⟩, of⟩ := K6.out.2.1.c
  have f0 := of 0
  have f1 := of 1
  have f2 := of 2
  have f3 := of 3
  have f4 := of 4
  have f5 := of 5
  have f6 := of 6
  have f7 := of 7
  clear of
  have ZB := hidI (K6.out.2.1.set (.int .i64 6) (.string ⟨u2.toArray⟩) (.string ⟨#[]⟩) (.int .i64 y.kind) (.int .i64 y.n) (.string ⟨y.s.toArray⟩) (.slice a5 y.keys.length c5) (.slice b5 y.l.length d5))
  have ZL := hidI (bel_set8 K6.out.2.2 (Nat.le_succ w.heap.size) (.int .i64 6) (.string ⟨u2.toArray⟩) (.string ⟨#[]⟩) (.int .i64 y.kind) (.int .i64 y.n) (.string ⟨y.s.toArray⟩) (.slice a5 y.keys.length c5) (.slice b5 y.l.length d5))
  go_wp2_with fail
  obtain ⟨⟨z0, z1, z2, z3, z4, z5, z6, z7⟩, -⟩ := ZB.out.c
  refine bodyPost_ret (v := .tuple #[.agg #[.int .i64 6, .string ⟨u2.toArray⟩, .string ⟨#[]⟩, .int .i64 y.kind, .int .i64 y.n, .string ⟨y.s.toArray⟩, .slice a5 y.keys.length c5, .slice b5 y.l.length d5], .bool false]) ?_ rfl ?_
  · simp only [set8] at z0 z1 z2 z3 z4 z5 z6 z7
    simp [results, Tryd.results35, go_sem, z0, z1, z2, z3, z4, z5, z6, z7]
  · exact ⟨⟨6, u2, [], y⟩, a5, b5, c5, d5, by rw [HA.out]; rfl, Y6.out.grown (set8_gb _ _ _ _ _ _ _ _ _ _) (fun k hk => by have := H0.out k hk; omega), fun z hz => (by rw [HA.out] at hz; cases hz), by exact ZL.out⟩
set_option maxRecDepth 100000 in
set_option maxHeartbeats 4000000 in
theorem operation_4 (w : World) (ok : Nat → Prop) (t : V) (v : Value) (h : In w ok t v) (h0 : ∀ k, ok k → k < w.heap.size) (hG : GlobW w) (wd p : List UInt8) (h1 : textF t opB = some wd) (h2 : textF t pathB = some p) (hk : kindF wd = 4) (fr : List UInt8) (hm : textF t fromB = some fr) : Calls Tryd.prog 35 #[v] w (OpP w ok t) := by
  have H := hidI h
  have GG := hidI hG
  have H0 := hidI h0
  obtain ⟨a1, b1, c1, d1, rfl⟩ := h.form
  have K0 : Hid (OD w t a1 b1 c1 d1 ((w.alloc (.cells #[.int .i64 t.kind, .int .i64 t.n, .string ⟨t.s.toArray⟩, .slice a1 t.keys.length c1, .slice b1 t.l.length d1] 25)).alloc (.cells #[.int .i64 0, .string ⟨#[]⟩, .string ⟨#[]⟩, .int .i64 0, .int .i64 0, .string ⟨#[]⟩, .slice none 0 0, .slice none 0 0] 43))) := hidI ⟨h2a w _ _, h2b w _ _, bel_trans (bel_alloc _ _) (bel_alloc _ _)⟩
  clear h hG h0
  have T1 := hidI h1
  have T2 := hidI h2
  have HA : Hid (opF t = some ⟨4, p, fr, zeroT⟩) := hidI (by simp [opF, h1, h2, hk, hm])
  have HM := hidI hm
  clear h1 h2 hm
  obtain ⟨u1, hu1⟩ : ∃ u, (textF t opB).getD [] = u := ⟨_, rfl⟩
  obtain ⟨u2, hu2⟩ : ∃ u, (textF t pathB).getD [] = u := ⟨_, rfl⟩
  obtain ⟨kk, hkk⟩ : ∃ k, kindF u1 = k := ⟨_, rfl⟩
  have U1 := hidI hu1
  have U2 := hidI hu2
  have UK := hidI hkk
  clear hu1 hu2 hkk
  have hw : u1 = wd := by rw [← U1.out, T1.out]; rfl
  have hq : u2 = p := by rw [← U2.out, T2.out]; rfl
  have hk9 : kk = 4 := by rw [← UK.out, hw]; exact hk
  subst hk9
  subst hw
  subst hq
  clear hk
  go_enter Tryd.func35, Tryd.ntmps35
  go_upto_region 2 with (go_at_call 58; refine (text_at _ ok t _ opB (by exact H.out.bel K0.out.2.2)).mono ?_; rintro e w1 ⟨rfl, hb⟩; unfold str; have K1 := hidI (K0.out.bel hb); obtain ⟨t0, t1, t2, t3, t4, -⟩ := K1.out.1.c; rw [U1.out, (show (textF t opB).isSome = true by rw [T1.out]; rfl)]; clear hb)
  go_upto_region 3 with (go_at_call 58; refine (text_at _ ok t _ pathB (by exact H.out.bel K1.out.2.2)).mono ?_; rintro e w2 ⟨rfl, hb⟩; unfold str; have K2 := hidI (K1.out.bel hb); clear t0 t1 t2 t3 t4; obtain ⟨t0, t1, t2, t3, t4, -⟩ := K2.out.1.c; rw [U2.out, (show (textF t pathB).isSome = true by rw [T2.out]; rfl)]; clear hb)
  go_upto_region 4 with (go_at_call 59; refine (kindOf_at _ _ (by exact GG.out.bel K2.out.2.2)).mono ?_; rintro e w3 ⟨rfl, hb⟩; have K3 := hidI (K2.out.bel hb); clear t0 t1 t2 t3 t4; obtain ⟨t0, t1, t2, t3, t4, -⟩ := K3.out.1.c; rw [UK.out]; clear hb)
  have N3 : Hid (OBox (w3.alloc (.cells #[.int .i64 4, .string ⟨u2.toArray⟩, .string ⟨#[]⟩, .int .i64 0, .int .i64 0, .string ⟨#[]⟩, .slice none 0 0, .slice none 0 0] 43)) w3.heap.size (.int .i64 4) (.string ⟨u2.toArray⟩) (.string ⟨#[]⟩) (.int .i64 0) (.int .i64 0) (.string ⟨#[]⟩) (.slice none 0 0) (.slice none 0 0)) := hidI (heap_alloc_new w3 _)
  have K4 := hidI (K3.out.bel (bel_alloc w3 (.cells #[.int .i64 4, .string ⟨u2.toArray⟩, .string ⟨#[]⟩, .int .i64 0, .int .i64 0, .string ⟨#[]⟩, .slice none 0 0, .slice none 0 0] 43)))
  have hbig := K3.out.big
  clear t0 t1 t2 t3 t4
  obtain ⟨t0, t1, t2, t3, t4, -⟩ := K4.out.1.c
  go_upto_region 16 with (go_at_call 58; refine (text_at _ ok t _ fromB (by exact H.out.bel K4.out.2.2)).mono ?_; rintro e w5 ⟨rfl, hb⟩; unfold str; rw [HM.out]; have K5 := hidI (K4.out.bel hb); have N5 := hidI (N3.out.bel hb); clear t0 t1 t2 t3 t4; obtain ⟨⟨n0, n1, n2, n3, n4, n5, n6, n7⟩, nf⟩ := N5.out.c; have nf2 := nf 2; simp only [Option.getD, Option.isSome]; clear nf hb)
  obtain ⟨W6, hW6⟩ : ∃ W, (w5.setCell ⟨w3.heap.size, 2, none⟩ (.string ⟨fr.toArray⟩)) = W := ⟨_, rfl⟩
  rw [hW6]
  have g6 : w5.grownBy W6 (some w3.heap.size) := by rw [← hW6]; exact gb_set (gb_refl _ _) _ _
  have K6 := hidI (K5.out.grown g6 (by omega))
  have N6 : Hid (OBox W6 w3.heap.size (.int .i64 4) (.string ⟨u2.toArray⟩) (.string ⟨fr.toArray⟩) (.int .i64 0) (.int .i64 0) (.string ⟨#[]⟩) (.slice none 0 0) (.slice none 0 0)) := hidI (by rw [← hW6]; exact heap_set N5.out 2 _)
  clear hW6 g6 n0 n1 n2 n3 n4 n5 n6 n7 nf2
  obtain ⟨⟨n0, n1, n2, n3, n4, n5, n6, n7⟩, -⟩ := N6.out.c
  obtain ⟨⟨o0, o1, o2, o3, o4, o5, o6, o7⟩, of⟩ := K6.out.2.1.c
  have f0 := of 0
  have f1 := of 1
  have f2 := of 2
  have f3 := of 3
  have f4 := of 4
  have f5 := of 5
  have f6 := of 6
  have f7 := of 7
  clear of
  have ZB := hidI (K6.out.2.1.set (.int .i64 4) (.string ⟨u2.toArray⟩) (.string ⟨fr.toArray⟩) (.int .i64 0) (.int .i64 0) (.string ⟨#[]⟩) (.slice none 0 0) (.slice none 0 0))
  have ZL := hidI (bel_set8 K6.out.2.2 (Nat.le_succ w.heap.size) (.int .i64 4) (.string ⟨u2.toArray⟩) (.string ⟨fr.toArray⟩) (.int .i64 0) (.int .i64 0) (.string ⟨#[]⟩) (.slice none 0 0) (.slice none 0 0))
  go_wp2_with fail
  obtain ⟨⟨z0, z1, z2, z3, z4, z5, z6, z7⟩, -⟩ := ZB.out.c
  refine bodyPost_ret (v := .tuple #[.agg #[.int .i64 4, .string ⟨u2.toArray⟩, .string ⟨fr.toArray⟩, .int .i64 0, .int .i64 0, .string ⟨#[]⟩, .slice none 0 0, .slice none 0 0], .bool true]) ?_ rfl ?_
  · simp only [set8] at z0 z1 z2 z3 z4 z5 z6 z7
    simp [results, Tryd.results35, go_sem, z0, z1, z2, z3, z4, z5, z6, z7]
  · exact ⟨⟨4, u2, fr, zeroT⟩, none, none, 0, 0, by rw [HA.out]; rfl, in_zero _ _, fun z hz => (by rw [HA.out] at hz; cases hz; rfl), by exact ZL.out⟩
set_option maxRecDepth 100000 in
set_option maxHeartbeats 4000000 in
theorem operation_4n (w : World) (ok : Nat → Prop) (t : V) (v : Value) (h : In w ok t v) (h0 : ∀ k, ok k → k < w.heap.size) (hG : GlobW w) (wd p : List UInt8) (h1 : textF t opB = some wd) (h2 : textF t pathB = some p) (hk : kindF wd = 4) (hm : textF t fromB = none) : Calls Tryd.prog 35 #[v] w (OpP w ok t) := by
  have H := hidI h
  have GG := hidI hG
  have H0 := hidI h0
  obtain ⟨a1, b1, c1, d1, rfl⟩ := h.form
  have K0 : Hid (OD w t a1 b1 c1 d1 ((w.alloc (.cells #[.int .i64 t.kind, .int .i64 t.n, .string ⟨t.s.toArray⟩, .slice a1 t.keys.length c1, .slice b1 t.l.length d1] 25)).alloc (.cells #[.int .i64 0, .string ⟨#[]⟩, .string ⟨#[]⟩, .int .i64 0, .int .i64 0, .string ⟨#[]⟩, .slice none 0 0, .slice none 0 0] 43))) := hidI ⟨h2a w _ _, h2b w _ _, bel_trans (bel_alloc _ _) (bel_alloc _ _)⟩
  clear h hG h0
  have T1 := hidI h1
  have T2 := hidI h2
  have HA : Hid (opF t = none) := hidI (by simp [opF, h1, h2, hk, hm])
  have HM := hidI hm
  clear h1 h2 hm
  obtain ⟨u1, hu1⟩ : ∃ u, (textF t opB).getD [] = u := ⟨_, rfl⟩
  obtain ⟨u2, hu2⟩ : ∃ u, (textF t pathB).getD [] = u := ⟨_, rfl⟩
  obtain ⟨kk, hkk⟩ : ∃ k, kindF u1 = k := ⟨_, rfl⟩
  have U1 := hidI hu1
  have U2 := hidI hu2
  have UK := hidI hkk
  clear hu1 hu2 hkk
  have hw : u1 = wd := by rw [← U1.out, T1.out]; rfl
  have hq : u2 = p := by rw [← U2.out, T2.out]; rfl
  have hk9 : kk = 4 := by rw [← UK.out, hw]; exact hk
  subst hk9
  subst hw
  subst hq
  clear hk
  go_enter Tryd.func35, Tryd.ntmps35
  go_upto_region 2 with (go_at_call 58; refine (text_at _ ok t _ opB (by exact H.out.bel K0.out.2.2)).mono ?_; rintro e w1 ⟨rfl, hb⟩; unfold str; have K1 := hidI (K0.out.bel hb); obtain ⟨t0, t1, t2, t3, t4, -⟩ := K1.out.1.c; rw [U1.out, (show (textF t opB).isSome = true by rw [T1.out]; rfl)]; clear hb)
  go_upto_region 3 with (go_at_call 58; refine (text_at _ ok t _ pathB (by exact H.out.bel K1.out.2.2)).mono ?_; rintro e w2 ⟨rfl, hb⟩; unfold str; have K2 := hidI (K1.out.bel hb); clear t0 t1 t2 t3 t4; obtain ⟨t0, t1, t2, t3, t4, -⟩ := K2.out.1.c; rw [U2.out, (show (textF t pathB).isSome = true by rw [T2.out]; rfl)]; clear hb)
  go_upto_region 4 with (go_at_call 59; refine (kindOf_at _ _ (by exact GG.out.bel K2.out.2.2)).mono ?_; rintro e w3 ⟨rfl, hb⟩; have K3 := hidI (K2.out.bel hb); clear t0 t1 t2 t3 t4; obtain ⟨t0, t1, t2, t3, t4, -⟩ := K3.out.1.c; rw [UK.out]; clear hb)
  have N3 : Hid (OBox (w3.alloc (.cells #[.int .i64 4, .string ⟨u2.toArray⟩, .string ⟨#[]⟩, .int .i64 0, .int .i64 0, .string ⟨#[]⟩, .slice none 0 0, .slice none 0 0] 43)) w3.heap.size (.int .i64 4) (.string ⟨u2.toArray⟩) (.string ⟨#[]⟩) (.int .i64 0) (.int .i64 0) (.string ⟨#[]⟩) (.slice none 0 0) (.slice none 0 0)) := hidI (heap_alloc_new w3 _)
  have K4 := hidI (K3.out.bel (bel_alloc w3 (.cells #[.int .i64 4, .string ⟨u2.toArray⟩, .string ⟨#[]⟩, .int .i64 0, .int .i64 0, .string ⟨#[]⟩, .slice none 0 0, .slice none 0 0] 43)))
  have hbig := K3.out.big
  clear t0 t1 t2 t3 t4
  obtain ⟨t0, t1, t2, t3, t4, -⟩ := K4.out.1.c
  go_upto_region 16 with (go_at_call 58; refine (text_at _ ok t _ fromB (by exact H.out.bel K4.out.2.2)).mono ?_; rintro e w5 ⟨rfl, hb⟩; unfold str; rw [HM.out]; have K5 := hidI (K4.out.bel hb); have N5 := hidI (N3.out.bel hb); clear t0 t1 t2 t3 t4; obtain ⟨⟨n0, n1, n2, n3, n4, n5, n6, n7⟩, nf⟩ := N5.out.c; have nf2 := nf 2; simp only [Option.getD, Option.isSome]; clear nf hb)
  obtain ⟨W6, hW6⟩ : ∃ W, (w5.setCell ⟨w3.heap.size, 2, none⟩ (.string ⟨#[]⟩)) = W := ⟨_, rfl⟩
  rw [hW6]
  have g6 : w5.grownBy W6 (some w3.heap.size) := by rw [← hW6]; exact gb_set (gb_refl _ _) _ _
  have K6 := hidI (K5.out.grown g6 (by omega))
  have N6 : Hid (OBox W6 w3.heap.size (.int .i64 4) (.string ⟨u2.toArray⟩) (.string ⟨#[]⟩) (.int .i64 0) (.int .i64 0) (.string ⟨#[]⟩) (.slice none 0 0) (.slice none 0 0)) := hidI (by rw [← hW6]; exact heap_set N5.out 2 _)
  clear hW6 g6 n0 n1 n2 n3 n4 n5 n6 n7 nf2
  obtain ⟨⟨n0, n1, n2, n3, n4, n5, n6, n7⟩, -⟩ := N6.out.c
  obtain ⟨⟨o0, o1, o2, o3, o4, o5, o6, o7⟩, of⟩ := K6.out.2.1.c
  have f0 := of 0
  have f1 := of 1
  have f2 := of 2
  have f3 := of 3
  have f4 := of 4
  have f5 := of 5
  have f6 := of 6
  have f7 := of 7
  clear of
  have ZB := hidI (K6.out.2.1.set (.int .i64 4) (.string ⟨u2.toArray⟩) (.string ⟨#[]⟩) (.int .i64 0) (.int .i64 0) (.string ⟨#[]⟩) (.slice none 0 0) (.slice none 0 0))
  have ZL := hidI (bel_set8 K6.out.2.2 (Nat.le_succ w.heap.size) (.int .i64 4) (.string ⟨u2.toArray⟩) (.string ⟨#[]⟩) (.int .i64 0) (.int .i64 0) (.string ⟨#[]⟩) (.slice none 0 0) (.slice none 0 0))
  go_wp2_with fail
  obtain ⟨⟨z0, z1, z2, z3, z4, z5, z6, z7⟩, -⟩ := ZB.out.c
  refine bodyPost_ret (v := .tuple #[.agg #[.int .i64 4, .string ⟨u2.toArray⟩, .string ⟨#[]⟩, .int .i64 0, .int .i64 0, .string ⟨#[]⟩, .slice none 0 0, .slice none 0 0], .bool false]) ?_ rfl ?_
  · simp only [set8] at z0 z1 z2 z3 z4 z5 z6 z7
    simp [results, Tryd.results35, go_sem, z0, z1, z2, z3, z4, z5, z6, z7]
  · exact ⟨⟨4, u2, [], zeroT⟩, none, none, 0, 0, by rw [HA.out]; rfl, in_zero _ _, fun z hz => (by rw [HA.out] at hz; cases hz), by exact ZL.out⟩
set_option maxRecDepth 100000 in
set_option maxHeartbeats 4000000 in
theorem operation_5 (w : World) (ok : Nat → Prop) (t : V) (v : Value) (h : In w ok t v) (h0 : ∀ k, ok k → k < w.heap.size) (hG : GlobW w) (wd p : List UInt8) (h1 : textF t opB = some wd) (h2 : textF t pathB = some p) (hk : kindF wd = 5) (fr : List UInt8) (hm : textF t fromB = some fr) : Calls Tryd.prog 35 #[v] w (OpP w ok t) := by
  have H := hidI h
  have GG := hidI hG
  have H0 := hidI h0
  obtain ⟨a1, b1, c1, d1, rfl⟩ := h.form
  have K0 : Hid (OD w t a1 b1 c1 d1 ((w.alloc (.cells #[.int .i64 t.kind, .int .i64 t.n, .string ⟨t.s.toArray⟩, .slice a1 t.keys.length c1, .slice b1 t.l.length d1] 25)).alloc (.cells #[.int .i64 0, .string ⟨#[]⟩, .string ⟨#[]⟩, .int .i64 0, .int .i64 0, .string ⟨#[]⟩, .slice none 0 0, .slice none 0 0] 43))) := hidI ⟨h2a w _ _, h2b w _ _, bel_trans (bel_alloc _ _) (bel_alloc _ _)⟩
  clear h hG h0
  have T1 := hidI h1
  have T2 := hidI h2
  have HA : Hid (opF t = some ⟨5, p, fr, zeroT⟩) := hidI (by simp [opF, h1, h2, hk, hm])
  have HM := hidI hm
  clear h1 h2 hm
  obtain ⟨u1, hu1⟩ : ∃ u, (textF t opB).getD [] = u := ⟨_, rfl⟩
  obtain ⟨u2, hu2⟩ : ∃ u, (textF t pathB).getD [] = u := ⟨_, rfl⟩
  obtain ⟨kk, hkk⟩ : ∃ k, kindF u1 = k := ⟨_, rfl⟩
  have U1 := hidI hu1
  have U2 := hidI hu2
  have UK := hidI hkk
  clear hu1 hu2 hkk
  have hw : u1 = wd := by rw [← U1.out, T1.out]; rfl
  have hq : u2 = p := by rw [← U2.out, T2.out]; rfl
  have hk9 : kk = 5 := by rw [← UK.out, hw]; exact hk
  subst hk9
  subst hw
  subst hq
  clear hk
  go_enter Tryd.func35, Tryd.ntmps35
  go_upto_region 2 with (go_at_call 58; refine (text_at _ ok t _ opB (by exact H.out.bel K0.out.2.2)).mono ?_; rintro e w1 ⟨rfl, hb⟩; unfold str; have K1 := hidI (K0.out.bel hb); obtain ⟨t0, t1, t2, t3, t4, -⟩ := K1.out.1.c; rw [U1.out, (show (textF t opB).isSome = true by rw [T1.out]; rfl)]; clear hb)
  go_upto_region 3 with (go_at_call 58; refine (text_at _ ok t _ pathB (by exact H.out.bel K1.out.2.2)).mono ?_; rintro e w2 ⟨rfl, hb⟩; unfold str; have K2 := hidI (K1.out.bel hb); clear t0 t1 t2 t3 t4; obtain ⟨t0, t1, t2, t3, t4, -⟩ := K2.out.1.c; rw [U2.out, (show (textF t pathB).isSome = true by rw [T2.out]; rfl)]; clear hb)
  go_upto_region 4 with (go_at_call 59; refine (kindOf_at _ _ (by exact GG.out.bel K2.out.2.2)).mono ?_; rintro e w3 ⟨rfl, hb⟩; have K3 := hidI (K2.out.bel hb); clear t0 t1 t2 t3 t4; obtain ⟨t0, t1, t2, t3, t4, -⟩ := K3.out.1.c; rw [UK.out]; clear hb)
  have N3 : Hid (OBox (w3.alloc (.cells #[.int .i64 5, .string ⟨u2.toArray⟩, .string ⟨#[]⟩, .int .i64 0, .int .i64 0, .string ⟨#[]⟩, .slice none 0 0, .slice none 0 0] 43)) w3.heap.size (.int .i64 5) (.string ⟨u2.toArray⟩) (.string ⟨#[]⟩) (.int .i64 0) (.int .i64 0) (.string ⟨#[]⟩) (.slice none 0 0) (.slice none 0 0)) := hidI (heap_alloc_new w3 _)
  have K4 := hidI (K3.out.bel (bel_alloc w3 (.cells #[.int .i64 5, .string ⟨u2.toArray⟩, .string ⟨#[]⟩, .int .i64 0, .int .i64 0, .string ⟨#[]⟩, .slice none 0 0, .slice none 0 0] 43)))
  have hbig := K3.out.big
  clear t0 t1 t2 t3 t4
  obtain ⟨t0, t1, t2, t3, t4, -⟩ := K4.out.1.c
  go_upto_region 16 with (go_at_call 58; refine (text_at _ ok t _ fromB (by exact H.out.bel K4.out.2.2)).mono ?_; rintro e w5 ⟨rfl, hb⟩; unfold str; rw [HM.out]; have K5 := hidI (K4.out.bel hb); have N5 := hidI (N3.out.bel hb); clear t0 t1 t2 t3 t4; obtain ⟨⟨n0, n1, n2, n3, n4, n5, n6, n7⟩, nf⟩ := N5.out.c; have nf2 := nf 2; simp only [Option.getD, Option.isSome]; clear nf hb)
  obtain ⟨W6, hW6⟩ : ∃ W, (w5.setCell ⟨w3.heap.size, 2, none⟩ (.string ⟨fr.toArray⟩)) = W := ⟨_, rfl⟩
  rw [hW6]
  have g6 : w5.grownBy W6 (some w3.heap.size) := by rw [← hW6]; exact gb_set (gb_refl _ _) _ _
  have K6 := hidI (K5.out.grown g6 (by omega))
  have N6 : Hid (OBox W6 w3.heap.size (.int .i64 5) (.string ⟨u2.toArray⟩) (.string ⟨fr.toArray⟩) (.int .i64 0) (.int .i64 0) (.string ⟨#[]⟩) (.slice none 0 0) (.slice none 0 0)) := hidI (by rw [← hW6]; exact heap_set N5.out 2 _)
  clear hW6 g6 n0 n1 n2 n3 n4 n5 n6 n7 nf2
  obtain ⟨⟨n0, n1, n2, n3, n4, n5, n6, n7⟩, -⟩ := N6.out.c
  obtain ⟨⟨o0, o1, o2, o3, o4, o5, o6, o7⟩, of⟩ := K6.out.2.1.c
  have f0 := of 0
  have f1 := of 1
  have f2 := of 2
  have f3 := of 3
  have f4 := of 4
  have f5 := of 5
  have f6 := of 6
  have f7 := of 7
  clear of
  have ZB := hidI (K6.out.2.1.set (.int .i64 5) (.string ⟨u2.toArray⟩) (.string ⟨fr.toArray⟩) (.int .i64 0) (.int .i64 0) (.string ⟨#[]⟩) (.slice none 0 0) (.slice none 0 0))
  have ZL := hidI (bel_set8 K6.out.2.2 (Nat.le_succ w.heap.size) (.int .i64 5) (.string ⟨u2.toArray⟩) (.string ⟨fr.toArray⟩) (.int .i64 0) (.int .i64 0) (.string ⟨#[]⟩) (.slice none 0 0) (.slice none 0 0))
  go_wp2_with fail
  obtain ⟨⟨z0, z1, z2, z3, z4, z5, z6, z7⟩, -⟩ := ZB.out.c
  refine bodyPost_ret (v := .tuple #[.agg #[.int .i64 5, .string ⟨u2.toArray⟩, .string ⟨fr.toArray⟩, .int .i64 0, .int .i64 0, .string ⟨#[]⟩, .slice none 0 0, .slice none 0 0], .bool true]) ?_ rfl ?_
  · simp only [set8] at z0 z1 z2 z3 z4 z5 z6 z7
    simp [results, Tryd.results35, go_sem, z0, z1, z2, z3, z4, z5, z6, z7]
  · exact ⟨⟨5, u2, fr, zeroT⟩, none, none, 0, 0, by rw [HA.out]; rfl, in_zero _ _, fun z hz => (by rw [HA.out] at hz; cases hz; rfl), by exact ZL.out⟩
set_option maxRecDepth 100000 in
set_option maxHeartbeats 4000000 in
theorem operation_5n (w : World) (ok : Nat → Prop) (t : V) (v : Value) (h : In w ok t v) (h0 : ∀ k, ok k → k < w.heap.size) (hG : GlobW w) (wd p : List UInt8) (h1 : textF t opB = some wd) (h2 : textF t pathB = some p) (hk : kindF wd = 5) (hm : textF t fromB = none) : Calls Tryd.prog 35 #[v] w (OpP w ok t) := by
  have H := hidI h
  have GG := hidI hG
  have H0 := hidI h0
  obtain ⟨a1, b1, c1, d1, rfl⟩ := h.form
  have K0 : Hid (OD w t a1 b1 c1 d1 ((w.alloc (.cells #[.int .i64 t.kind, .int .i64 t.n, .string ⟨t.s.toArray⟩, .slice a1 t.keys.length c1, .slice b1 t.l.length d1] 25)).alloc (.cells #[.int .i64 0, .string ⟨#[]⟩, .string ⟨#[]⟩, .int .i64 0, .int .i64 0, .string ⟨#[]⟩, .slice none 0 0, .slice none 0 0] 43))) := hidI ⟨h2a w _ _, h2b w _ _, bel_trans (bel_alloc _ _) (bel_alloc _ _)⟩
  clear h hG h0
  have T1 := hidI h1
  have T2 := hidI h2
  have HA : Hid (opF t = none) := hidI (by simp [opF, h1, h2, hk, hm])
  have HM := hidI hm
  clear h1 h2 hm
  obtain ⟨u1, hu1⟩ : ∃ u, (textF t opB).getD [] = u := ⟨_, rfl⟩
  obtain ⟨u2, hu2⟩ : ∃ u, (textF t pathB).getD [] = u := ⟨_, rfl⟩
  obtain ⟨kk, hkk⟩ : ∃ k, kindF u1 = k := ⟨_, rfl⟩
  have U1 := hidI hu1
  have U2 := hidI hu2
  have UK := hidI hkk
  clear hu1 hu2 hkk
  have hw : u1 = wd := by rw [← U1.out, T1.out]; rfl
  have hq : u2 = p := by rw [← U2.out, T2.out]; rfl
  have hk9 : kk = 5 := by rw [← UK.out, hw]; exact hk
  subst hk9
  subst hw
  subst hq
  clear hk
  go_enter Tryd.func35, Tryd.ntmps35
  go_upto_region 2 with (go_at_call 58; refine (text_at _ ok t _ opB (by exact H.out.bel K0.out.2.2)).mono ?_; rintro e w1 ⟨rfl, hb⟩; unfold str; have K1 := hidI (K0.out.bel hb); obtain ⟨t0, t1, t2, t3, t4, -⟩ := K1.out.1.c; rw [U1.out, (show (textF t opB).isSome = true by rw [T1.out]; rfl)]; clear hb)
  go_upto_region 3 with (go_at_call 58; refine (text_at _ ok t _ pathB (by exact H.out.bel K1.out.2.2)).mono ?_; rintro e w2 ⟨rfl, hb⟩; unfold str; have K2 := hidI (K1.out.bel hb); clear t0 t1 t2 t3 t4; obtain ⟨t0, t1, t2, t3, t4, -⟩ := K2.out.1.c; rw [U2.out, (show (textF t pathB).isSome = true by rw [T2.out]; rfl)]; clear hb)
  go_upto_region 4 with (go_at_call 59; refine (kindOf_at _ _ (by exact GG.out.bel K2.out.2.2)).mono ?_; rintro e w3 ⟨rfl, hb⟩; have K3 := hidI (K2.out.bel hb); clear t0 t1 t2 t3 t4; obtain ⟨t0, t1, t2, t3, t4, -⟩ := K3.out.1.c; rw [UK.out]; clear hb)
  have N3 : Hid (OBox (w3.alloc (.cells #[.int .i64 5, .string ⟨u2.toArray⟩, .string ⟨#[]⟩, .int .i64 0, .int .i64 0, .string ⟨#[]⟩, .slice none 0 0, .slice none 0 0] 43)) w3.heap.size (.int .i64 5) (.string ⟨u2.toArray⟩) (.string ⟨#[]⟩) (.int .i64 0) (.int .i64 0) (.string ⟨#[]⟩) (.slice none 0 0) (.slice none 0 0)) := hidI (heap_alloc_new w3 _)
  have K4 := hidI (K3.out.bel (bel_alloc w3 (.cells #[.int .i64 5, .string ⟨u2.toArray⟩, .string ⟨#[]⟩, .int .i64 0, .int .i64 0, .string ⟨#[]⟩, .slice none 0 0, .slice none 0 0] 43)))
  have hbig := K3.out.big
  clear t0 t1 t2 t3 t4
  obtain ⟨t0, t1, t2, t3, t4, -⟩ := K4.out.1.c
  go_upto_region 16 with (go_at_call 58; refine (text_at _ ok t _ fromB (by exact H.out.bel K4.out.2.2)).mono ?_; rintro e w5 ⟨rfl, hb⟩; unfold str; rw [HM.out]; have K5 := hidI (K4.out.bel hb); have N5 := hidI (N3.out.bel hb); clear t0 t1 t2 t3 t4; obtain ⟨⟨n0, n1, n2, n3, n4, n5, n6, n7⟩, nf⟩ := N5.out.c; have nf2 := nf 2; simp only [Option.getD, Option.isSome]; clear nf hb)
  obtain ⟨W6, hW6⟩ : ∃ W, (w5.setCell ⟨w3.heap.size, 2, none⟩ (.string ⟨#[]⟩)) = W := ⟨_, rfl⟩
  rw [hW6]
  have g6 : w5.grownBy W6 (some w3.heap.size) := by rw [← hW6]; exact gb_set (gb_refl _ _) _ _
  have K6 := hidI (K5.out.grown g6 (by omega))
  have N6 : Hid (OBox W6 w3.heap.size (.int .i64 5) (.string ⟨u2.toArray⟩) (.string ⟨#[]⟩) (.int .i64 0) (.int .i64 0) (.string ⟨#[]⟩) (.slice none 0 0) (.slice none 0 0)) := hidI (by rw [← hW6]; exact heap_set N5.out 2 _)
  clear hW6 g6 n0 n1 n2 n3 n4 n5 n6 n7 nf2
  obtain ⟨⟨n0, n1, n2, n3, n4, n5, n6, n7⟩, -⟩ := N6.out.c
  obtain ⟨⟨o0, o1, o2, o3, o4, o5, o6, o7⟩, of⟩ := K6.out.2.1.c
  have f0 := of 0
  have f1 := of 1
  have f2 := of 2
  have f3 := of 3
  have f4 := of 4
  have f5 := of 5
  have f6 := of 6
  have f7 := of 7
  clear of
  have ZB := hidI (K6.out.2.1.set (.int .i64 5) (.string ⟨u2.toArray⟩) (.string ⟨#[]⟩) (.int .i64 0) (.int .i64 0) (.string ⟨#[]⟩) (.slice none 0 0) (.slice none 0 0))
  have ZL := hidI (bel_set8 K6.out.2.2 (Nat.le_succ w.heap.size) (.int .i64 5) (.string ⟨u2.toArray⟩) (.string ⟨#[]⟩) (.int .i64 0) (.int .i64 0) (.string ⟨#[]⟩) (.slice none 0 0) (.slice none 0 0))
  go_wp2_with fail
  obtain ⟨⟨z0, z1, z2, z3, z4, z5, z6, z7⟩, -⟩ := ZB.out.c
  refine bodyPost_ret (v := .tuple #[.agg #[.int .i64 5, .string ⟨u2.toArray⟩, .string ⟨#[]⟩, .int .i64 0, .int .i64 0, .string ⟨#[]⟩, .slice none 0 0, .slice none 0 0], .bool false]) ?_ rfl ?_
  · simp only [set8] at z0 z1 z2 z3 z4 z5 z6 z7
    simp [results, Tryd.results35, go_sem, z0, z1, z2, z3, z4, z5, z6, z7]
  · exact ⟨⟨5, u2, [], zeroT⟩, none, none, 0, 0, by rw [HA.out]; rfl, in_zero _ _, fun z hz => (by rw [HA.out] at hz; cases hz), by exact ZL.out⟩

theorem operation_at (w : World) (ok : Nat → Prop) (t : V) (v : Value) (h : In w ok t v) (hG : GlobW w) : Calls Tryd.prog 35 #[v] w (OpP w ok t) := by
  have key : Calls Tryd.prog 35 #[v] w (OpP w (fun k => ok k ∧ k < w.heap.size) t) := by
    replace h := h.low
    have h0 : ∀ k, (fun k => ok k ∧ k < w.heap.size) k → k < w.heap.size := fun k hk => hk.2
    cases h1 : textF t opB with
    | none => exact operation_word w _ t v h h0 hG h1
    | some wd =>
      cases h2 : textF t pathB with
      | none => exact operation_path w _ t v h h0 hG wd h1 h2
      | some p =>
        rcases kind_range wd with hk | hk | hk | hk | hk | hk | hk
        · exact operation_kind w _ t v h h0 hG wd p h1 h2 hk
        · cases hm : memV t valueB with
          | none => exact operation_1n w _ t v h h0 hG wd p h1 h2 hk hm
          | some y => exact operation_1 w _ t v h h0 hG wd p h1 h2 hk y hm
        · exact operation_2 w _ t v h h0 hG wd p h1 h2 hk
        · cases hm : memV t valueB with
          | none => exact operation_3n w _ t v h h0 hG wd p h1 h2 hk hm
          | some y => exact operation_3 w _ t v h h0 hG wd p h1 h2 hk y hm
        · cases hm : textF t fromB with
          | none => exact operation_4n w _ t v h h0 hG wd p h1 h2 hk hm
          | some f => exact operation_4 w _ t v h h0 hG wd p h1 h2 hk f hm
        · cases hm : textF t fromB with
          | none => exact operation_5n w _ t v h h0 hG wd p h1 h2 hk hm
          | some f => exact operation_5 w _ t v h h0 hG wd p h1 h2 hk f hm
        · cases hm : memV t valueB with
          | none => exact operation_6n w _ t v h h0 hG wd p h1 h2 hk hm
          | some y => exact operation_6 w _ t v h h0 hG wd p h1 h2 hk y hm
  refine key.mono ?_
  rintro e w' ⟨o, a7, a8, c7, c8, e1, e2, e3, e4⟩
  exact ⟨o, a7, a8, c7, c8, e1, e2.weak fun k hk => hk.1, e3, e4⟩
end Go.Proofs.YtaifciobaapehaaDoor

/- Merge, Clean and Diff, plainly. -/
set_option linter.unusedSimpArgs false
set_option linter.unusedVariables false
namespace Go.Proofs.YtaifciobaapehaaDoor
open Go.RowKit

/- An object in order. -/
def Ob (t : V) : Prop := t.kind = 5 ∧ t.n = 0 ∧ t.s = [] ∧ t.keys.length = t.l.length ∧ Rises t.keys
theorem Ob.paired {t : V} (h : Ob t) : pairedV t = true := by simp [pairedV, h.1, h.2.2.2.1]
def objT : V := ⟨5, 0, [], [], []⟩
theorem ob_objT : Ob objT := ⟨rfl, rfl, rfl, rfl, List.Pairwise.nil⟩
theorem mem_objT (k : List UInt8) : memV objT k = none := rfl
theorem ob_of {t : V} (hs : shapedB t = true) (hk : t.kind = 5) : Ob t := by
  obtain ⟨h1, h2, h3, h4⟩ := shaped_object hs hk
  simp only [pairedV, Bool.and_eq_true, decide_eq_true_eq] at h1
  exact ⟨hk, h3, h4, h1.2, (rise_pair _ _ h2).2.1⟩
theorem look_mem {k : List UInt8} {ps : List (List UInt8 × V)} {x : V} (h : look k ps = some x) : (k, x) ∈ ps := by
  induction ps with
  | nil => cases h
  | cons p ps ih =>
    rw [look] at h
    split at h
    · rename_i e; cases h; rw [← e]; simp
    · simp [ih h]
theorem look_key {k : List UInt8} {ps : List (List UInt8 × V)} (h : look k ps = none) : ∀ p ∈ ps, p.1 ≠ k := by
  induction ps with
  | nil => intro p hp; cases hp
  | cons q ps ih =>
    rw [look] at h
    split at h
    · cases h
    · rename_i e
      intro p hp
      rcases List.mem_cons.1 hp with rfl | hp
      · exact e
      · exact ih h p hp
/- Rising pairs that answer alike are the same. -/
theorem look_ext : ∀ (a b : List (List UInt8 × V)), (a.map Prod.fst).Pairwise (fun x y => Op.bytesLess x y = true) → (b.map Prod.fst).Pairwise (fun x y => Op.bytesLess x y = true) → (∀ k, look k a = look k b) → a = b
  | [], [], _, _, _ => rfl
  | [], q :: b, _, _, h => by have := h q.1; simp [look] at this
  | p :: a, [], _, _, h => by have := h p.1; simp [look] at this
  | p :: a, q :: b, ha, hb, h => by
    rw [List.map_cons, List.pairwise_cons] at ha hb
    have less : ∀ x y : List UInt8, Op.bytesLess x y = true → Op.bytesLess y x = true → False := fun x y h1 h2 => by
      have := less_trans x y x h1 h2; rw [less_irrefl] at this; cases this
    have hk : p.1 = q.1 := by
      have h1 := h p.1
      have h2 := h q.1
      rw [look, if_pos rfl, look] at h1
      rw [look] at h2
      split at h1
      · rename_i e; exact e.symm
      · rename_i e
        have m1 := look_mem h1.symm
        have l1 := hb.1 p.1 (List.mem_map.2 ⟨_, m1, rfl⟩)
        rw [if_neg (fun e' => e e'.symm), look, if_pos rfl] at h2
        have m2 := look_mem h2
        have l2 := ha.1 q.1 (List.mem_map.2 ⟨_, m2, rfl⟩)
        exact (less _ _ l1 l2).elim
    have hv : p.2 = q.2 := by
      have h1 := h p.1
      rw [look, if_pos rfl, look, if_pos hk.symm] at h1
      exact Option.some.inj h1
    have hp : p = q := Prod.ext hk hv
    subst hp
    congr 1
    refine look_ext a b ha.2 hb.2 fun k => ?_
    have h1 := h k
    rw [look, look] at h1
    by_cases e : p.1 = k
    · have n1 : look k a = none := look_none fun r hr e' => by
        have := ha.1 r.1 (List.mem_map.2 ⟨r, hr, rfl⟩)
        rw [e, ← e', less_irrefl] at this; cases this
      have n2 : look k b = none := look_none fun r hr e' => by
        have := hb.1 r.1 (List.mem_map.2 ⟨r, hr, rfl⟩)
        rw [e, ← e', less_irrefl] at this; cases this
      rw [n1, n2]
    · rwa [if_neg e, if_neg e] at h1
theorem zip_inj {a b : List (List UInt8)} {c d : List V} (h1 : a.length = c.length) (h2 : b.length = d.length) (h : a.zip c = b.zip d) : a = b ∧ c = d := by
  have e1 := congrArg (List.map Prod.fst) h
  have e2 := congrArg (List.map Prod.snd) h
  rw [List.map_fst_zip (by omega), List.map_fst_zip (by omega)] at e1
  rw [List.map_snd_zip (by omega), List.map_snd_zip (by omega)] at e2
  exact ⟨e1, e2⟩
theorem ob_ext {t u : V} (ht : Ob t) (hu : Ob u) (h : ∀ k, memV t k = memV u k) : t = u := by
  have hz : t.keys.zip t.l = u.keys.zip u.l := look_ext _ _
    (by rw [List.map_fst_zip (by have := ht.2.2.2.1; omega)]; exact ht.2.2.2.2)
    (by rw [List.map_fst_zip (by have := hu.2.2.2.1; omega)]; exact hu.2.2.2.2)
    fun k => by rw [← memV_look ht.paired, ← memV_look hu.paired]; exact h k
  obtain ⟨e1, e2⟩ := zip_inj ht.2.2.2.1 hu.2.2.2.1 hz
  rw [← V_eta t, ← V_eta u, ht.1, hu.1, ht.2.1, hu.2.1, ht.2.2.1, hu.2.2.1, e1, e2]
/- With and Without keep the order. -/
theorem less_total : ∀ (a b : List UInt8), Op.bytesLess a b = false → a ≠ b → Op.bytesLess b a = true
  | [], [], _, h => absurd rfl h
  | [], _ :: _, h, _ => by simp [Op.bytesLess] at h
  | _ :: _, [], _, _ => by simp [Op.bytesLess]
  | x :: a, y :: b, h, hne => by
    simp only [Op.bytesLess, Bool.or_eq_false_iff, decide_eq_false_iff_not, Bool.and_eq_false_iff] at h
    simp only [Op.bytesLess, Bool.or_eq_true, Bool.and_eq_true, decide_eq_true_eq, beq_iff_eq]
    by_cases e : x = y
    · subst e
      refine .inr ⟨rfl, less_total a b ?_ (fun e => hne (by rw [e]))⟩
      rcases h.2 with h2 | h2
      · simp at h2
      · exact h2
    · left
      have h1 := h.1
      rw [UInt8.lt_iff_toNat_lt] at *
      have : x.toNat ≠ y.toNat := fun e' => e (UInt8.toNat_inj.1 e')
      omega
theorem ins_rises {key : List UInt8} {ks : List (List UInt8)} (h : Rises ks) (hn : key ∉ ks) : Rises (ks.take (insV key ks) ++ key :: ks.drop (insV key ks)) := by
  unfold Rises at *
  induction ks with
  | nil => simp [insV]
  | cons a ks ih =>
    rw [List.pairwise_cons] at h
    simp only [List.mem_cons, not_or] at hn
    unfold insV
    rw [List.takeWhile_cons]
    split
    · rename_i hl
      simp only [List.length_cons, List.take_succ_cons, List.drop_succ_cons, List.cons_append]
      rw [List.pairwise_cons]
      refine ⟨?_, ih h.2 hn.2⟩
      intro x hx
      rw [List.mem_append] at hx
      rcases hx with hx | hx
      · exact h.1 x (List.mem_of_mem_take hx)
      · rcases List.mem_cons.1 hx with rfl | hx
        · exact hl
        · exact h.1 x (List.mem_of_mem_drop hx)
    · rename_i hl
      simp only [List.length_nil, List.take_zero, List.drop_zero, List.nil_append]
      have hka := less_total _ _ (by simpa using hl) (fun e => hn.1 e.symm)
      rw [List.pairwise_cons]
      refine ⟨?_, List.pairwise_cons.2 h⟩
      intro x hx
      rcases List.mem_cons.1 hx with rfl | hx
      · exact hka
      · exact less_trans _ _ _ hka (h.1 x hx)
theorem ob_with {t : V} (h : Ob t) (k : List UInt8) (x : V) : Ob (withV t k x) := by
  have hp := h.paired
  have hp' := with_paired hp k x
  simp only [pairedV, Bool.and_eq_true, decide_eq_true_eq] at hp'
  refine ⟨hp'.1, ?_, ?_, hp'.2, ?_⟩
  · unfold withV; rw [if_pos hp]; split <;> exact h.2.1
  · unfold withV; rw [if_pos hp]; split <;> exact h.2.2.1
  · unfold withV; rw [if_pos hp]
    split
    · exact h.2.2.2.2
    · rename_i hi
      exact ins_rises h.2.2.2.2 (idxL_not hi)
theorem ob_without {t : V} (h : Ob t) (k : List UInt8) : Ob (withoutV t k) := by
  unfold withoutV
  split
  · rename_i i hi
    obtain ⟨-, -, h1, h2⟩ := findV_some hi
    have hl := h.2.2.2.1
    refine ⟨h.1, h.2.1, h.2.2.1, ?_, h.2.2.2.2.sublist (out_sub _ _)⟩
    simp only [List.length_append, List.length_take, List.length_drop]; omega
  · exact h
theorem mem_without_other {t : V} (h : Ob t) {k k' : List UInt8} (hne : k' ≠ k) : memV (withoutV t k) k' = memV t k' := by
  have ho := ob_without h k
  rw [memV_look ho.paired, memV_look h.paired]
  have hl := h.2.2.2.1
  unfold withoutV at ho ⊢
  cases hi : findV t k with
  | none => rfl
  | some i =>
    obtain ⟨-, h0, h1, h2⟩ := findV_some hi
    have hk := (idxL_lt h0).2
    simp only
    rw [List.zip_append (by simp [hl]), look_append, zip_split t.keys t.l i hl, look_append]
    congr 1
    rw [drop_at hk, List.drop_eq_getElem_cons h1, List.zip_cons_cons, look, if_neg (fun e => hne e.symm)]
theorem without_items (t : V) (k : List UInt8) : (withoutV t k).l.length ≤ t.l.length := by
  unfold withoutV
  split
  · simp only [List.length_append, List.length_take, List.length_drop]; omega
  · omega
/- What steps through the pairs of an object make, if each changes what is of its key alone. -/
theorem fold_ob {step : V → List UInt8 × V → V} (ho : ∀ v p, Ob v → Ob (step v p)) : ∀ (ps : List (List UInt8 × V)) (v : V), Ob v → Ob (ps.foldl step v)
  | [], _, h => h
  | p :: ps, v, h => fold_ob ho ps _ (ho v p h)
theorem fold_far {step : V → List UInt8 × V → V} (ho : ∀ v p, Ob v → Ob (step v p)) (hf : ∀ v p k, Ob v → k ≠ p.1 → memV (step v p) k = memV v k) {k : List UInt8} :
    ∀ (ps : List (List UInt8 × V)) (v : V), Ob v → (∀ p ∈ ps, p.1 ≠ k) → memV (ps.foldl step v) k = memV v k
  | [], _, _, _ => rfl
  | p :: ps, v, h, hn => by
    rw [List.foldl_cons, fold_far ho hf ps _ (ho v p h) fun q hq => hn q (by simp [hq]), hf v p k h fun e => hn p (by simp) e.symm]
theorem fold_mem {step : V → List UInt8 × V → V} {F : List UInt8 → V → Option V → Option V} (ho : ∀ v p, Ob v → Ob (step v p)) (hf : ∀ v p k, Ob v → k ≠ p.1 → memV (step v p) k = memV v k)
    (hs : ∀ v p, Ob v → memV (step v p) p.1 = F p.1 p.2 (memV v p.1)) (k : List UInt8) :
    ∀ (ps : List (List UInt8 × V)) (v : V), Ob v → (ps.map Prod.fst).Nodup → memV (ps.foldl step v) k = match look k ps with | none => memV v k | some x => F k x (memV v k)
  | [], _, _, _ => rfl
  | p :: ps, v, h, hn => by
    rw [List.map_cons, List.nodup_cons] at hn
    rw [List.foldl_cons, look]
    by_cases e : p.1 = k
    · rw [if_pos e, fold_far ho hf ps _ (ho v p h) fun q hq e' => hn.1 (List.mem_map.2 ⟨q, hq, by rw [e', e]⟩)]
      subst e
      exact hs v p h
    · rw [if_neg e, fold_mem ho hf hs k ps _ (ho v p h) hn.2, hf v p k h fun e' => e e'.symm]
theorem ob_nodup {t : V} (h : Ob t) : ((t.keys.zip t.l).map Prod.fst).Nodup := by
  rw [List.map_fst_zip (by have := h.2.2.2.1; omega)]
  exact rises_nodup h.2.2.2.2
/- P4.1: what Merge makes. -/
def stepM (f : V → V → V) (v : V) (p : List UInt8 × V) : V := if p.2.kind = 0 then withoutV v p.1 else withV v p.1 (f ((memV v p.1).getD zeroT) p.2)
def objOf (v : V) : V := if v.kind = 5 then v else objT
def mergeF : Nat → V → V → V
  | 0, _, p => p
  | D + 1, v, p => if p.kind = 5 then (p.keys.zip p.l).foldl (stepM (mergeF D)) (objOf v) else p
theorem stepM_ob (f : V → V → V) (v : V) (p : List UInt8 × V) (h : Ob v) : Ob (stepM f v p) := by
  unfold stepM
  split
  · exact ob_without h _
  · exact ob_with h _ _
theorem stepM_far (f : V → V → V) (v : V) (p : List UInt8 × V) (k : List UInt8) (h : Ob v) (hk : k ≠ p.1) : memV (stepM f v p) k = memV v k := by
  unfold stepM
  split
  · exact mem_without_other h hk
  · exact mem_other h.paired _ _ _ hk
theorem stepM_at (f : V → V → V) (v : V) (p : List UInt8 × V) (h : Ob v) : memV (stepM f v p) p.1 = if p.2.kind = 0 then none else some (f ((memV v p.1).getD zeroT) p.2) := by
  unfold stepM
  split
  · exact mem_without h.paired (rises_nodup h.2.2.2.2) _
  · exact mem_with h.paired _ _
theorem ob_objOf {v : V} (h : v.kind = 5 → Ob v) : Ob (objOf v) := by
  unfold objOf
  split
  · exact h (by assumption)
  · exact ob_objT
theorem merge_ob {D : Nat} {v p : V} (hp : p.kind = 5) (hv : v.kind = 5 → Ob v) : Ob (mergeF (D + 1) v p) := by
  rw [mergeF, if_pos hp]
  exact fold_ob (stepM_ob _) _ _ (ob_objOf hv)
theorem merge_mem {D : Nat} {v p : V} (hp : Ob p) (hv : v.kind = 5 → Ob v) (k : List UInt8) :
    memV (mergeF (D + 1) v p) k = match memV p k with | none => memV (objOf v) k | some x => if x.kind = 0 then none else some (mergeF D ((memV (objOf v) k).getD zeroT) x) := by
  rw [mergeF, if_pos hp.1, fold_mem (F := fun k x m => if x.kind = 0 then none else some (mergeF D (m.getD zeroT) x)) (stepM_ob _) (stepM_far _) (stepM_at _) k _ _ (ob_objOf hv) (ob_nodup hp), ← memV_look hp.paired]
theorem mem_in {t x : V} {k : List UInt8} (h : memV t k = some x) : x ∈ t.l := by
  unfold memV at h
  rw [Option.bind_eq_some_iff] at h
  obtain ⟨i, -, h⟩ := h
  exact List.mem_of_getElem? h
theorem nice_ob {t : V} (h : Nice t) : t.kind = 5 → Ob t := ob_of (nice_shaped h)
theorem nice_zero : Nice zeroT := ⟨1, ⟨rfl, fun x hx => by cases hx⟩, by simp [szD, zeroT]⟩
theorem nice_was {v : V} (h : Nice v) (k : List UInt8) : Nice ((memV (objOf v) k).getD zeroT) := by
  unfold objOf
  split
  · cases hm : memV v k with
    | none => exact nice_zero
    | some x => exact nice_mem h (mem_in hm)
  · exact nice_zero
/- Merged twice it is as merged once. -/
theorem merge_twice : ∀ (D : Nat) (v p : V), GoodT D p → Nice v → mergeF D (mergeF D v p) p = mergeF D v p
  | 0, _, _, h, _ => h.elim
  | D + 1, v, p, h, hv => by
    by_cases hp : p.kind = 5
    · have op := ob_of h.1 hp
      have ox : Ob (mergeF (D + 1) v p) := merge_ob hp (nice_ob hv)
      refine ob_ext (merge_ob hp fun _ => ox) ox fun k => ?_
      rw [merge_mem op (fun _ => ox) k]
      have e0 : objOf (mergeF (D + 1) v p) = mergeF (D + 1) v p := by unfold objOf; rw [if_pos ox.1]
      rw [e0, merge_mem op (nice_ob hv) k]
      cases hm : memV p k with
      | none => rfl
      | some x =>
        simp only
        split
        · rfl
        · simp only [Option.getD_some]
          rw [merge_twice D _ x (h.2 x (mem_in hm)) (nice_was hv k)]
    · have e : ∀ u, mergeF (D + 1) u p = p := fun u => by rw [mergeF, if_neg hp]
      rw [e, e]
theorem merge_kind {D : Nat} {v p : V} (hp : p.kind = 5) (hv : Nice v) : (mergeF (D + 1) v p).kind = 5 := (merge_ob hp (nice_ob hv)).1
/- P4.2: Clean; what is other. -/
def cleanF : Nat → V → Bool
  | 0, _ => true
  | D + 1, t => !decide (t.kind = 5) || t.l.all fun x => !decide (x.kind = 0) && cleanF D x
theorem clean_mem {D : Nat} {t x : V} (h : cleanF (D + 1) t = true) (hk : t.kind = 5) (hx : x ∈ t.l) : x.kind ≠ 0 ∧ cleanF D x = true := by
  simp only [cleanF, hk, decide_true, Bool.not_true, Bool.false_or, List.all_eq_true, Bool.and_eq_true, Bool.not_eq_true', decide_eq_false_iff_not] at h
  exact h x hx
def stepG (b : V) (d : V) (p : List UInt8 × V) : V := if (memV b p.1).isSome then d else withV d p.1 zeroT
def goneV (a b : V) : V := (a.keys.zip a.l).foldl (stepG b) objT
open Classical in
noncomputable def stepD (f : V → V → V) (a d : V) (p : List UInt8 × V) : V :=
  match memV a p.1 with
  | none => withV d p.1 p.2
  | some y => if y = p.2 then d else withV d p.1 (f y p.2)
noncomputable def diffF : Nat → V → V → V
  | 0, _, b => b
  | D + 1, a, b => if a.kind = 5 ∧ b.kind = 5 then (b.keys.zip b.l).foldl (stepD (diffF D) a) (goneV a b) else b
theorem stepG_ob (b v : V) (p : List UInt8 × V) (h : Ob v) : Ob (stepG b v p) := by
  unfold stepG
  split
  · exact h
  · exact ob_with h _ _
theorem stepG_far (b v : V) (p : List UInt8 × V) (k : List UInt8) (h : Ob v) (hk : k ≠ p.1) : memV (stepG b v p) k = memV v k := by
  unfold stepG
  split
  · rfl
  · exact mem_other h.paired _ _ _ hk
theorem stepG_at (b v : V) (p : List UInt8 × V) (h : Ob v) : memV (stepG b v p) p.1 = if (memV b p.1).isSome then memV v p.1 else some zeroT := by
  unfold stepG
  split
  · rfl
  · exact mem_with h.paired _ _
theorem gone_ob (a b : V) : Ob (goneV a b) := fold_ob (stepG_ob b) _ _ ob_objT
theorem gone_mem {a b : V} (ha : Ob a) (k : List UInt8) : memV (goneV a b) k = if (memV a k).isSome ∧ memV b k = none then some zeroT else none := by
  rw [goneV, fold_mem (F := fun k _ m => if (memV b k).isSome then m else some zeroT) (stepG_ob b) (stepG_far b) (stepG_at b) k _ _ ob_objT (ob_nodup ha), ← memV_look ha.paired, mem_objT]
  cases memV a k <;> cases memV b k <;> simp
theorem stepD_ob (f : V → V → V) (a v : V) (p : List UInt8 × V) (h : Ob v) : Ob (stepD f a v p) := by
  unfold stepD
  split
  · exact ob_with h _ _
  · split
    · exact h
    · exact ob_with h _ _
theorem stepD_far (f : V → V → V) (a v : V) (p : List UInt8 × V) (k : List UInt8) (h : Ob v) (hk : k ≠ p.1) : memV (stepD f a v p) k = memV v k := by
  unfold stepD
  split
  · exact mem_other h.paired _ _ _ hk
  · split
    · rfl
    · exact mem_other h.paired _ _ _ hk
open Classical in
theorem stepD_at (f : V → V → V) (a v : V) (p : List UInt8 × V) (h : Ob v) : memV (stepD f a v p) p.1 = match memV a p.1 with | none => some p.2 | some y => if y = p.2 then memV v p.1 else some (f y p.2) := by
  unfold stepD
  cases memV a p.1 with
  | none => exact mem_with h.paired _ _
  | some y =>
    simp only
    split
    · rfl
    · exact mem_with h.paired _ _
theorem diff_ob {D : Nat} {a b : V} (ha : a.kind = 5) (hb : b.kind = 5) : Ob (diffF (D + 1) a b) := by
  rw [diffF, if_pos ⟨ha, hb⟩]
  exact fold_ob (stepD_ob _ _) _ _ (gone_ob a b)
open Classical in
theorem diff_mem {D : Nat} {a b : V} (ha : Ob a) (hb : Ob b) (k : List UInt8) :
    memV (diffF (D + 1) a b) k = match memV b k with
      | none => if (memV a k).isSome then some zeroT else none
      | some x => match memV a k with | none => some x | some y => if y = x then none else some (diffF D y x) := by
  rw [diffF, if_pos ⟨ha.1, hb.1⟩, fold_mem (F := fun k x m => match memV a k with | none => some x | some y => if y = x then m else some (diffF D y x)) (stepD_ob _ _) (stepD_far _ _) (stepD_at _ _) k _ _ (gone_ob a b) (ob_nodup hb), ← memV_look hb.paired, gone_mem ha]
  cases memV b k with
  | none => simp
  | some x =>
    cases memV a k with
    | none => rfl
    | some y => simp
/- What is clean is made of nothing. -/
theorem merge_new : ∀ (D : Nat) (E : Nat) (v x : V), GoodT D x → cleanF D x = true → D ≤ E → v.kind ≠ 5 → mergeF E v x = x
  | 0, _, _, _, h, _, _, _ => h.elim
  | D + 1, 0, _, _, _, _, h, _ => by omega
  | D + 1, E + 1, v, x, h, hc, hE, hv => by
    by_cases hk : x.kind = 5
    · have ox := ob_of h.1 hk
      refine ob_ext (merge_ob hk fun e => absurd e hv) ox fun k => ?_
      rw [merge_mem ox (fun e => absurd e hv)]
      have e0 : objOf v = objT := by unfold objOf; rw [if_neg hv]
      rw [e0, mem_objT]
      cases hm : memV x k with
      | none => rfl
      | some y =>
        have hy := mem_in hm
        obtain ⟨c1, c2⟩ := clean_mem hc hk hy
        simp only [if_neg c1, Option.getD_none]
        rw [merge_new D E zeroT y (h.2 y hy) c2 (by omega) (by decide)]
    · rw [mergeF, if_neg hk]
theorem diff_kind {D : Nat} {a b : V} (h : b.kind ≠ 0) : (diffF D a b).kind ≠ 0 := by
  cases D with
  | zero => exact h
  | succ D =>
    by_cases hk : a.kind = 5 ∧ b.kind = 5
    · rw [(diff_ob hk.1 hk.2).1]; decide
    · rw [diffF, if_neg hk]; exact h
/- What is other, merged into the first, makes the second. -/
theorem merge_diff : ∀ (D E : Nat) (a b : V), GoodT D b → cleanF D b = true → Nice a → D ≤ E → mergeF E a (diffF D a b) = b
  | 0, _, _, _, h, _, _, _ => h.elim
  | D + 1, 0, _, _, _, _, _, h => by omega
  | D + 1, E + 1, a, b, h, hc, ha, hE => by
    by_cases hb : b.kind = 5
    · by_cases hk : a.kind = 5
      · have oa := nice_ob ha hk
        have ob := ob_of h.1 hb
        have od : Ob (diffF (D + 1) a b) := diff_ob hk hb
        refine ob_ext (merge_ob od.1 (nice_ob ha)) ob fun k => ?_
        have e0 : objOf a = a := by unfold objOf; rw [if_pos hk]
        rw [merge_mem od (nice_ob ha), diff_mem oa ob, e0]
        cases hm : memV b k with
        | none =>
          cases hn : memV a k with
          | none => simp
          | some y => simp [zeroT]
        | some x =>
          have hx := mem_in hm
          obtain ⟨c1, c2⟩ := clean_mem hc hb hx
          cases hn : memV a k with
          | none =>
            simp only [if_neg c1, Option.getD_none]
            rw [merge_new D E zeroT x (h.2 x hx) c2 (by omega) (by decide)]
          | some y =>
            by_cases e : y = x
            · simp [e]
            · have := merge_diff D E y x (h.2 x hx) c2 (nice_mem ha (mem_in hn)) (by omega)
              simp [e, diff_kind c1, this]
      · have e : diffF (D + 1) a b = b := by rw [diffF, if_neg (fun h => hk h.1)]
        rw [e]
        exact merge_new (D + 1) (E + 1) a b h hc hE hk
    · have e : diffF (D + 1) a b = b := by rw [diffF, if_neg (fun h => hb h.2)]
      rw [e, mergeF, if_neg hb]
theorem diff_same {D : Nat} {a : V} (oa : Ob a) : diffF (D + 1) a a = objT := by
  refine ob_ext (diff_ob oa.1 oa.1) ob_objT fun k => ?_
  rw [diff_mem oa oa, mem_objT]
  cases memV a k <;> simp
theorem merge_none {D : Nat} {a : V} (hk : a.kind = 5) : mergeF (D + 1) a objT = a := by
  rw [mergeF, if_pos (show objT.kind = 5 from rfl)]
  show List.foldl _ (objOf a) [] = a
  unfold objOf; rw [if_pos hk]; rfl
end Go.Proofs.YtaifciobaapehaaDoor

set_option linter.unusedSimpArgs false
set_option linter.unusedVariables false
namespace Go.Proofs.YtaifciobaapehaaDoor
open Go.RowKit

def allG {α : Type} (f : V → Option α) : List V → Option (List α)
  | [] => some []
  | x :: l => match f x, allG f l with
    | some a, some b => some (a :: b)
    | _, _ => none
theorem allG_step {α : Type} {f : V → Option α} {l : List V} {k : Nat} (h : k < l.length) {xs : List α} (hx : allG f (l.take k) = some xs) {x : α} (hr : f l[k] = some x) : allG f (l.take (k + 1)) = some (xs ++ [x]) := by
  induction l generalizing k xs with
  | nil => simp at h
  | cons y l ih =>
    cases k with
    | zero =>
      simp at hr hx ⊢
      simp [allG] at hx
      subst hx
      simp [allG, hr]
    | succ k =>
      simp only [List.take_succ_cons, allG] at hx ⊢
      simp only [List.getElem_cons_succ] at hr
      cases hy : f y with
      | none => rw [hy] at hx; simp at hx
      | some a =>
        rw [hy] at hx
        cases hq : allG f (l.take k) with
        | none => rw [hq] at hx; simp at hx
        | some b =>
          rw [hq] at hx
          simp at hx
          subst hx
          rw [ih (by simpa using h) hq hr]
          simp
theorem allG_none {α : Type} {f : V → Option α} {l : List V} {k : Nat} (h : k < l.length) (hr : f l[k] = none) : allG f l = none := by
  induction l generalizing k with
  | nil => simp at h
  | cons y l ih =>
    cases k with
    | zero => simp at hr; simp [allG, hr]
    | succ k =>
      have := ih (k := k) (by simpa using h) (by simpa using hr)
      simp only [allG, this]
      cases f y <;> rfl
theorem allG_all {α : Type} {f : V → Option α} {l : List V} {k : Nat} {xs : List α} (h : allG f (l.take k) = some xs) (hk : ¬ k < l.length) : allG f l = some xs := by rwa [List.take_of_length_le (by omega)] at h
/- What Read answers. -/
def readOF (t : V) : List OpT × Int := if t.kind ≠ 4 ∨ goodV t = false then ([], 1) else if 20 < t.l.length then ([], 2) else match allG opF t.l with | some os => (os, 0) | none => ([], 1)
theorem text_short {t : V} (h : Nice t) {key s : List UInt8} (hs : textF t key = some s) : s.length ≤ 140737488351232 := by
  unfold textF at hs
  split at hs
  · rename_i x hx
    split at hs
    · rename_i hk
      cases hs
      have hn := nice_shaped (nice_mem h (mem_in hx))
      unfold shapedB at hn
      rw [hk] at hn
      simp [plainB] at hn
      omega
    · cases hs
  · cases hs
theorem op_good {t : V} (h : Nice t) {o : OpT} (ho : opF t = some o) : I64 o.kind ∧ o.path.length ≤ 140737488351232 ∧ o.frm.length ≤ 140737488351232 := by
  unfold opF at ho
  split at ho
  · rename_i wd p h1 h2
    have hp := text_short h h2
    have hk := kind_range wd
    split at ho
    · cases ho
    · split at ho
      · obtain ⟨y, -, rfl⟩ := Option.map_eq_some_iff.1 ho
        exact ⟨by unfold I64; simp only; omega, hp, by simp⟩
      · split at ho
        · obtain ⟨f, hf, rfl⟩ := Option.map_eq_some_iff.1 ho
          exact ⟨by unfold I64; simp only; omega, hp, text_short h hf⟩
        · cases ho
          exact ⟨by unfold I64; simp only; omega, hp, by simp⟩
  · cases ho
/- A row of operations that is being laid. -/
def RowO (w : World) (ok : Nat → Prop) (R n : Nat) (os : List OpT) : Prop := ∃ cs : Array Value, w.heap[R]? = some (.cells cs 43) ∧ cs.size = n * 8 ∧ ∀ i o, os[i]? = some o → (I64 o.kind ∧ o.path.length ≤ 140737488351232 ∧ o.frm.length ≤ 140737488351232) ∧ ∃ (a7 a8 : Option Addr) (c7 c8 : Nat), (cs[i * 8]? = some (.int .i64 o.kind) ∧ cs[i * 8 + 1]? = some (.string ⟨o.path.toArray⟩) ∧ cs[i * 8 + 2]? = some (.string ⟨o.frm.toArray⟩) ∧ cs[i * 8 + 3]? = some (.int .i64 o.value.kind) ∧ cs[i * 8 + 4]? = some (.int .i64 o.value.n) ∧ cs[i * 8 + 5]? = some (.string ⟨o.value.s.toArray⟩) ∧ cs[i * 8 + 6]? = some (.slice a7 o.value.keys.length c7) ∧ cs[i * 8 + 7]? = some (.slice a8 o.value.l.length c8)) ∧ In w ok o.value (.agg #[.int .i64 o.value.kind, .int .i64 o.value.n, .string ⟨o.value.s.toArray⟩, .slice a7 o.value.keys.length c7, .slice a8 o.value.l.length c8])
theorem RowO.bel {w w' : World} {ok : Nat → Prop} {R n : Nat} {os : List OpT} (h : RowO w ok R n os) (hb : Below w.heap.size w w') : RowO w' ok R n os := by
  obtain ⟨cs, h1, h2, h3⟩ := h
  refine ⟨cs, (hb.block R (Array.getElem?_eq_some_iff.1 h1).1).trans h1, h2, fun i o ho => ?_⟩
  obtain ⟨g, a7, a8, c7, c8, q, hi⟩ := h3 i o ho
  exact ⟨g, a7, a8, c7, c8, q, hi.bel hb⟩
theorem RowO.at {w : World} {ok : Nat → Prop} {R n : Nat} {os : List OpT} (h : RowO w ok R n os) {k : Nat} (hk : k < n) : (∃ u, w.cell? ⟨R, k * 8, none⟩ = some u) ∧ (∃ u, w.cell? ⟨R, k * 8 + 1, none⟩ = some u) ∧ (∃ u, w.cell? ⟨R, k * 8 + 2, none⟩ = some u) ∧ (∃ u, w.cell? ⟨R, k * 8 + 3, none⟩ = some u) ∧ (∃ u, w.cell? ⟨R, k * 8 + 4, none⟩ = some u) ∧ (∃ u, w.cell? ⟨R, k * 8 + 5, none⟩ = some u) ∧ (∃ u, w.cell? ⟨R, k * 8 + 6, none⟩ = some u) ∧ (∃ u, w.cell? ⟨R, k * 8 + 7, none⟩ = some u) ∧ ∀ i, w.frozen? ⟨R, i, none⟩ = false := by
  obtain ⟨cs, h1, h2, h3⟩ := h
  have key : ∀ j, j < cs.size → ∃ u, w.cell? ⟨R, j, none⟩ = some u := fun j hj => ⟨cs[j], by simp [World.cell?, h1, Array.getElem?_eq_getElem hj]⟩
  exact ⟨key _ (by omega), key _ (by omega), key _ (by omega), key _ (by omega), key _ (by omega), key _ (by omega), key _ (by omega), key _ (by omega), fun i => by simp [World.frozen?, h1]⟩
def set8a (w : World) (g i : Nat) (u0 u1 u2 v0 v1 v2 v3 v4 : Value) : World :=
  (((((((w.setCell ⟨g, i, none⟩ u0).setCell ⟨g, i + 1, none⟩ u1).setCell ⟨g, i + 2, none⟩ u2).setCell ⟨g, i + 3, none⟩ v0).setCell ⟨g, i + 4, none⟩ v1).setCell ⟨g, i + 5, none⟩ v2).setCell ⟨g, i + 6, none⟩ v3).setCell ⟨g, i + 7, none⟩ v4
theorem set8a_gb (w : World) (g i : Nat) (u0 u1 u2 v0 v1 v2 v3 v4 : Value) : w.grownBy (set8a w g i u0 u1 u2 v0 v1 v2 v3 v4) (some g) := gb_set (gb_set (gb_set (gb_set (gb_set (gb_set (gb_set (gb_set (gb_refl _ _) _ _) _ _) _ _) _ _) _ _) _ _) _ _) _ _
theorem set_eight {cs : Array Value} {i j : Nat} {u0 u1 u2 v0 v1 v2 v3 v4 : Value} (h : j < i ∨ i + 8 ≤ j) : ((((((((cs.setIfInBounds i u0).setIfInBounds (i + 1) u1).setIfInBounds (i + 2) u2).setIfInBounds (i + 3) v0).setIfInBounds (i + 4) v1).setIfInBounds (i + 5) v2).setIfInBounds (i + 6) v3).setIfInBounds (i + 7) v4)[j]? = cs[j]? := by
  rw [Array.getElem?_setIfInBounds_ne (by omega), Array.getElem?_setIfInBounds_ne (by omega), Array.getElem?_setIfInBounds_ne (by omega), Array.getElem?_setIfInBounds_ne (by omega), Array.getElem?_setIfInBounds_ne (by omega), Array.getElem?_setIfInBounds_ne (by omega), Array.getElem?_setIfInBounds_ne (by omega), Array.getElem?_setIfInBounds_ne (by omega)]
theorem set_eight_at {cs : Array Value} {i : Nat} {u0 u1 u2 v0 v1 v2 v3 v4 : Value} (h : i + 8 ≤ cs.size) :
    let c := (((((((cs.setIfInBounds i u0).setIfInBounds (i + 1) u1).setIfInBounds (i + 2) u2).setIfInBounds (i + 3) v0).setIfInBounds (i + 4) v1).setIfInBounds (i + 5) v2).setIfInBounds (i + 6) v3).setIfInBounds (i + 7) v4
    c[i]? = some u0 ∧ c[i + 1]? = some u1 ∧ c[i + 2]? = some u2 ∧ c[i + 3]? = some v0 ∧ c[i + 4]? = some v1 ∧ c[i + 5]? = some v2 ∧ c[i + 6]? = some v3 ∧ c[i + 7]? = some v4 := by
  refine ⟨?_, ?_, ?_, ?_, ?_, ?_, ?_, ?_⟩ <;> (simp [Array.getElem?_setIfInBounds]; omega)
theorem RowO.push {w : World} {ok : Nat → Prop} {R n : Nat} {os : List OpT} (h : RowO w ok R n os) (hk : os.length < n) (o : OpT) (hg : I64 o.kind ∧ o.path.length ≤ 140737488351232 ∧ o.frm.length ≤ 140737488351232) {a7 a8 : Option Addr} {c7 c8 : Nat} (hi : In w ok o.value (.agg #[.int .i64 o.value.kind, .int .i64 o.value.n, .string ⟨o.value.s.toArray⟩, .slice a7 o.value.keys.length c7, .slice a8 o.value.l.length c8])) (hR : ∀ k, ok k → k ≠ R) :
    RowO (set8a w R (os.length * 8) (.int .i64 o.kind) (.string ⟨o.path.toArray⟩) (.string ⟨o.frm.toArray⟩) (.int .i64 o.value.kind) (.int .i64 o.value.n) (.string ⟨o.value.s.toArray⟩) (.slice a7 o.value.keys.length c7) (.slice a8 o.value.l.length c8)) ok R n (os ++ [o]) := by
  obtain ⟨cs, h1, h2, h3⟩ := h
  have gs := set8a_gb w R (os.length * 8) (.int .i64 o.kind) (.string ⟨o.path.toArray⟩) (.string ⟨o.frm.toArray⟩) (.int .i64 o.value.kind) (.int .i64 o.value.n) (.string ⟨o.value.s.toArray⟩) (.slice a7 o.value.keys.length c7) (.slice a8 o.value.l.length c8)
  refine ⟨_, heap_set (heap_set (heap_set (heap_set (heap_set (heap_set (heap_set (heap_set h1 _ _) _ _) _ _) _ _) _ _) _ _) _ _) _ _, by simpa using h2, fun i z hz => ?_⟩
  by_cases hil : i < os.length
  · rw [List.getElem?_append_left hil] at hz
    obtain ⟨g, b7, b8, e7, e8, q, hi2⟩ := h3 i z hz
    refine ⟨g, b7, b8, e7, e8, ?_, hi2.grown gs hR⟩
    rw [set_eight (by omega), set_eight (by omega), set_eight (by omega), set_eight (by omega), set_eight (by omega), set_eight (by omega), set_eight (by omega), set_eight (by omega)]
    exact q
  · have hi2 : i = os.length := by
      have := (List.getElem?_eq_some_iff.1 hz).1
      simp at this; omega
    subst hi2
    simp at hz
    subst hz
    exact ⟨hg, a7, a8, c7, c8, set_eight_at (by omega), hi.grown gs hR⟩
theorem RowO.done {w : World} {ok ok' : Nat → Prop} {R n : Nat} {os : List OpT} (h : RowO w ok R n os) (hn : os.length = n) (h20 : n ≤ 20) (hR : ok' R) (hk : ∀ k, ok k → ok' k) : OpsAre w ok' os (.slice (some ⟨R, 0, none⟩) n n) := by
  obtain ⟨cs, h1, h2, h3⟩ := h
  refine ⟨by omega, .inr ⟨R, 0, n, by rw [hn], by omega, by omega, fun i o ho => ?_⟩⟩
  obtain ⟨⟨g1, g2, g3⟩, a7, a8, c7, c8, ⟨q0, q1, q2, q3, q4, q5, q6, q7⟩, hi⟩ := h3 i o ho
  refine ⟨_, _, _, _, _, _, _, _, hR, ?_, ?_, ?_, ?_, ?_, ?_, ?_, ?_, g1, g2, g3, a7, a8, c7, c8, rfl, hi.weak hk⟩
  · simp [World.cell?, h1, q0]
  · simp [World.cell?, h1, q1]
  · simp [World.cell?, h1, q2]
  · simp [World.cell?, h1, q3]
  · simp [World.cell?, h1, q4]
  · simp [World.cell?, h1, q5]
  · simp [World.cell?, h1, q6]
  · simp [World.cell?, h1, q7]
theorem infoOp : ∃ j, Tryd.prog.info? 43 = some j ∧ j.zero = some (.agg #[.int .i64 0, .string ⟨#[]⟩, .string ⟨#[]⟩, .int .i64 0, .int .i64 0, .string ⟨#[]⟩, .slice none 0 0, .slice none 0 0]) ∧ j.size = 8 ∧ j.bytes = 120 := by
  have h : (Tryd.prog.info? 43).map (fun i => (i.zero, i.size, i.bytes)) = some (some (.agg #[.int .i64 0, .string ⟨#[]⟩, .string ⟨#[]⟩, .int .i64 0, .int .i64 0, .string ⟨#[]⟩, .slice none 0 0, .slice none 0 0]), 8, 120) := by kernel_rfl
  cases e : Tryd.prog.info? 43 with
  | none => rw [e] at h; cases h
  | some j => rw [e] at h; simp at h; exact ⟨j, rfl, h.1, h.2.1, h.2.2⟩
set_option maxRecDepth 100000 in
set_option maxHeartbeats 4000000 in
theorem pread_kind (w : World) (ok : Nat → Prop) (t : V) (v : Value) (h : In w ok t v) (h0 : ∀ k, ok k → k < w.heap.size) (hG : GlobW w) (hk : t.kind ≠ 4) : Calls Tryd.prog 15 #[v] w fun e w' => ∃ sl, e = .returned (.tuple #[sl, .int .i64 (readOF t).2]) ∧ OpsAre w' (okN ok w.heap.size) (readOF t).1 sl ∧ Below w.heap.size w w' := by
  have H := hidI h
  have GG := hidI hG
  have H0 := hidI h0
  obtain ⟨a1, b1, c1, d1, rfl⟩ := h.form
  have K0 : Hid (BoxIs (w.alloc (.cells #[.int .i64 t.kind, .int .i64 t.n, .string ⟨t.s.toArray⟩, .slice a1 t.keys.length c1, .slice b1 t.l.length d1] 25)) w.heap.size (.int .i64 t.kind) (.int .i64 t.n) (.string ⟨t.s.toArray⟩) (.slice a1 t.keys.length c1) (.slice b1 t.l.length d1) ∧ Below w.heap.size w (w.alloc (.cells #[.int .i64 t.kind, .int .i64 t.n, .string ⟨t.s.toArray⟩, .slice a1 t.keys.length c1, .slice b1 t.l.length d1] 25))) := hidI ⟨heap_alloc_new w _, bel_alloc _ _⟩
  have HA : Hid (readOF t = ([], 1)) := hidI (by rw [readOF, if_pos (.inl hk)])
  have e1 : (t.kind == 4) = false := by simp [hk]
  have e1n : (t.kind != 4) = true := by simp [hk]
  clear h h0 hG hk
  go_enter Tryd.func15, Tryd.ntmps15
  go_wp2_with fail
  refine bodyPost_ret (v := .tuple #[.slice none 0 0, .int .i64 1]) (by simp [results, Tryd.results15, go_sem]) rfl ?_
  exact ⟨.slice none 0 0, by rw [HA.out], by rw [HA.out]; exact ⟨by simp, .inl ⟨rfl, none, rfl⟩⟩, K0.out.2⟩
set_option maxRecDepth 100000 in
set_option maxHeartbeats 4000000 in
theorem pread_bad (w : World) (ok : Nat → Prop) (t : V) (v : Value) (h : In w ok t v) (h0 : ∀ k, ok k → k < w.heap.size) (hG : GlobW w) (hk : t.kind = 4) (hg : goodV t = false) : Calls Tryd.prog 15 #[v] w fun e w' => ∃ sl, e = .returned (.tuple #[sl, .int .i64 (readOF t).2]) ∧ OpsAre w' (okN ok w.heap.size) (readOF t).1 sl ∧ Below w.heap.size w w' := by
  have H := hidI h
  have GG := hidI hG
  have H0 := hidI h0
  obtain ⟨a1, b1, c1, d1, rfl⟩ := h.form
  have K0 : Hid (BoxIs (w.alloc (.cells #[.int .i64 t.kind, .int .i64 t.n, .string ⟨t.s.toArray⟩, .slice a1 t.keys.length c1, .slice b1 t.l.length d1] 25)) w.heap.size (.int .i64 t.kind) (.int .i64 t.n) (.string ⟨t.s.toArray⟩) (.slice a1 t.keys.length c1) (.slice b1 t.l.length d1) ∧ Below w.heap.size w (w.alloc (.cells #[.int .i64 t.kind, .int .i64 t.n, .string ⟨t.s.toArray⟩, .slice a1 t.keys.length c1, .slice b1 t.l.length d1] 25))) := hidI ⟨heap_alloc_new w _, bel_alloc _ _⟩
  have HA : Hid (readOF t = ([], 1)) := hidI (by rw [readOF, if_pos (.inr hg)])
  have e1 : (t.kind == 4) = true := by simp [hk]
  have e1n : (t.kind != 4) = false := by simp [hk]
  clear h h0 hG hk
  go_enter Tryd.func15, Tryd.ntmps15
  go_wp2_with (go_at_call 24; refine (good_is _ ok t _ (by exact H.out.bel K0.out.2)).mono ?_; rintro e w1 ⟨rfl, hb⟩; rw [hg]; have K1 : Hid (BoxIs w1 w.heap.size (.int .i64 t.kind) (.int .i64 t.n) (.string ⟨t.s.toArray⟩) (.slice a1 t.keys.length c1) (.slice b1 t.l.length d1) ∧ Below w.heap.size w w1) := hidI ⟨box_bel hb K0.out.1, bel_trans K0.out.2 hb⟩; obtain ⟨t0, t1, t2, t3, t4, -⟩ := K1.out.1.c; clear hb)
  refine bodyPost_ret (v := .tuple #[.slice none 0 0, .int .i64 1]) (by simp [results, Tryd.results15, go_sem]) rfl ?_
  exact ⟨.slice none 0 0, by rw [HA.out], by rw [HA.out]; exact ⟨by simp, .inl ⟨rfl, none, rfl⟩⟩, K1.out.2⟩
set_option maxRecDepth 100000 in
set_option maxHeartbeats 4000000 in
theorem pread_long (w : World) (ok : Nat → Prop) (t : V) (v : Value) (h : In w ok t v) (h0 : ∀ k, ok k → k < w.heap.size) (hG : GlobW w) (hk : t.kind = 4) (hg : goodV t = true) (hl : 20 < t.l.length) : Calls Tryd.prog 15 #[v] w fun e w' => ∃ sl, e = .returned (.tuple #[sl, .int .i64 (readOF t).2]) ∧ OpsAre w' (okN ok w.heap.size) (readOF t).1 sl ∧ Below w.heap.size w w' := by
  have H := hidI h
  have GG := hidI hG
  have H0 := hidI h0
  obtain ⟨a1, b1, c1, d1, rfl⟩ := h.form
  have K0 : Hid (BoxIs (w.alloc (.cells #[.int .i64 t.kind, .int .i64 t.n, .string ⟨t.s.toArray⟩, .slice a1 t.keys.length c1, .slice b1 t.l.length d1] 25)) w.heap.size (.int .i64 t.kind) (.int .i64 t.n) (.string ⟨t.s.toArray⟩) (.slice a1 t.keys.length c1) (.slice b1 t.l.length d1) ∧ Below w.heap.size w (w.alloc (.cells #[.int .i64 t.kind, .int .i64 t.n, .string ⟨t.s.toArray⟩, .slice a1 t.keys.length c1, .slice b1 t.l.length d1] 25))) := hidI ⟨heap_alloc_new w _, bel_alloc _ _⟩
  have HA : Hid (readOF t = ([], 2)) := hidI (by rw [readOF, if_neg (by simp [hk, hg]), if_pos hl])
  have e1 : (t.kind == 4) = true := by simp [hk]
  have e1n : (t.kind != 4) = false := by simp [hk]
  have e2 : 20 < (t.l.length : Int) := by omega
  clear h h0 hG hk hl
  go_enter Tryd.func15, Tryd.ntmps15
  go_wp2_with (go_at_call 24; refine (good_is _ ok t _ (by exact H.out.bel K0.out.2)).mono ?_; rintro e w1 ⟨rfl, hb⟩; rw [hg]; have K1 : Hid (BoxIs w1 w.heap.size (.int .i64 t.kind) (.int .i64 t.n) (.string ⟨t.s.toArray⟩) (.slice a1 t.keys.length c1) (.slice b1 t.l.length d1) ∧ Below w.heap.size w w1) := hidI ⟨box_bel hb K0.out.1, bel_trans K0.out.2 hb⟩; obtain ⟨t0, t1, t2, t3, t4, -⟩ := K1.out.1.c; clear hb)
  refine bodyPost_ret (v := .tuple #[.slice none 0 0, .int .i64 2]) (by simp [results, Tryd.results15, go_sem]) rfl ?_
  exact ⟨.slice none 0 0, by rw [HA.out], by rw [HA.out]; exact ⟨by simp, .inl ⟨rfl, none, rfl⟩⟩, K1.out.2⟩
set_option maxRecDepth 100000 in
set_option maxHeartbeats 4000000 in
theorem pread_list (w : World) (ok : Nat → Prop) (t : V) (v : Value) (h : In w ok t v) (h0 : ∀ k, ok k → k < w.heap.size) (hG : GlobW w) (hk : t.kind = 4) (hg : goodV t = true) (hl : t.l.length ≤ 20) : Calls Tryd.prog 15 #[v] w fun e w' => ∃ sl, e = .returned (.tuple #[sl, .int .i64 (readOF t).2]) ∧ OpsAre w' (okN ok w.heap.size) (readOF t).1 sl ∧ Below w.heap.size w w' := by
  have H := hidI h
  have GG := hidI hG
  have H0 := hidI h0
  obtain ⟨a1, b1, c1, d1, rfl⟩ := h.form
  have K0 : Hid (BoxIs (w.alloc (.cells #[.int .i64 t.kind, .int .i64 t.n, .string ⟨t.s.toArray⟩, .slice a1 t.keys.length c1, .slice b1 t.l.length d1] 25)) w.heap.size (.int .i64 t.kind) (.int .i64 t.n) (.string ⟨t.s.toArray⟩) (.slice a1 t.keys.length c1) (.slice b1 t.l.length d1) ∧ Below w.heap.size w (w.alloc (.cells #[.int .i64 t.kind, .int .i64 t.n, .string ⟨t.s.toArray⟩, .slice a1 t.keys.length c1, .slice b1 t.l.length d1] 25))) := hidI ⟨heap_alloc_new w _, bel_alloc _ _⟩
  have e1 : (t.kind == 4) = true := by simp [hk]
  have e1n : (t.kind != 4) = false := by simp [hk]
  have e2 : ¬ 20 < (t.l.length : Int) := by omega
  have e3 : ¬ (t.l.length : Int) < 0 := by omega
  have NT := hidI (nice_of hg)
  have FB : Hid (allG opF t.l = none → readOF t = ([], 1)) := hidI (fun hx => by rw [readOF, if_neg (by simp [hk, hg]), if_neg (by omega), hx])
  have FO : Hid (∀ os, allG opF t.l = some os → readOF t = (os, 0)) := hidI (fun os hx => by rw [readOF, if_neg (by simp [hk, hg]), if_neg (by omega), hx])
  have HL := hidI hl
  obtain ⟨i0, hi, hz0, hz1, hz2⟩ := infoOp
  have hmk : Hid (∀ W : World, (Instr.makeSlice 35 (.int .i64 (t.l.length : Int)) (.int .i64 (t.l.length : Int))).run Tryd.prog W = .ok (.slice (some ⟨W.heap.size, 0, none⟩) t.l.length t.l.length) (W.alloc (.cells (madeCells #[.int .i64 0, .string ⟨#[]⟩, .string ⟨#[]⟩, .int .i64 0, .int .i64 0, .string ⟨#[]⟩, .slice none 0 0, .slice none 0 0] (t.l.length * 8)) 43))) := hidI (fun W => by
    have k := run_make (P := Tryd.prog) W 35 43 i0 _ Tryd.underlying35 hi hz0 .i64 .i64 (t.l.length : Int) (t.l.length : Int) (by omega) (Int.le_refl _) (by rw [hz2]; omega) (by omega)
    rw [hz1] at k
    simpa [Value.cells] using k)
  clear h h0 hG hk hi hz0 hz1 hz2
  go_enter Tryd.func15, Tryd.ntmps15
  go_upto_region 5 with (go_at_call 24; refine (good_is _ ok t _ (by exact H.out.bel K0.out.2)).mono ?_; rintro e w1 ⟨rfl, hb⟩; rw [hg]; have K1 : Hid (BoxIs w1 w.heap.size (.int .i64 t.kind) (.int .i64 t.n) (.string ⟨t.s.toArray⟩) (.slice a1 t.keys.length c1) (.slice b1 t.l.length d1) ∧ Below w.heap.size w w1) := hidI ⟨box_bel hb K0.out.1, bel_trans K0.out.2 hb⟩; obtain ⟨t0, t1, t2, t3, t4, -⟩ := K1.out.1.c; clear hb)
  have mk := hmk.out w1
  have K2 : Hid (BoxIs (w1.alloc (.cells (madeCells #[.int .i64 0, .string ⟨#[]⟩, .string ⟨#[]⟩, .int .i64 0, .int .i64 0, .string ⟨#[]⟩, .slice none 0 0, .slice none 0 0] (t.l.length * 8)) 43)) w.heap.size (.int .i64 t.kind) (.int .i64 t.n) (.string ⟨t.s.toArray⟩) (.slice a1 t.keys.length c1) (.slice b1 t.l.length d1) ∧ RowO (w1.alloc (.cells (madeCells #[.int .i64 0, .string ⟨#[]⟩, .string ⟨#[]⟩, .int .i64 0, .int .i64 0, .string ⟨#[]⟩, .slice none 0 0, .slice none 0 0] (t.l.length * 8)) 43)) ok w1.heap.size t.l.length [] ∧ Below w.heap.size w (w1.alloc (.cells (madeCells #[.int .i64 0, .string ⟨#[]⟩, .string ⟨#[]⟩, .int .i64 0, .int .i64 0, .string ⟨#[]⟩, .slice none 0 0, .slice none 0 0] (t.l.length * 8)) 43)) ∧ w.heap.size < w1.heap.size) := hidI ⟨box_bel (bel_alloc _ _) K1.out.1, ⟨_, heap_alloc_new w1 _, by simp [madeCells], fun i o ho => by simp at ho⟩, bel_trans K1.out.2 (bel_alloc _ _), K1.out.1.lt⟩
  clear t0 t1 t2 t3 t4
  obtain ⟨t0, t1, t2, t3, t4, -⟩ := K1.out.1.c
  obtain ⟨s0, s1, s2, s3, s4, -⟩ := K2.out.1.c
  go_wp2_with fail
  clear mk hmk t0 t1 t2 t3 t4 s0 s1 s2 s3 s4
  go_loopg [5, 6, 7, 8, 28] t.l.length (fun gk _ _ _ _ i wr => ∃ (k : Nat) (os : List OpT), k ≤ t.l.length ∧ Hid (gk = t.l.length - k) ∧ i = .int .i64 k ∧ Hid (allG opF (t.l.take k) = some os ∧ os.length = k) ∧ Hid (BoxIs wr w.heap.size (.int .i64 t.kind) (.int .i64 t.n) (.string ⟨t.s.toArray⟩) (.slice a1 t.keys.length c1) (.slice b1 t.l.length d1) ∧ RowO wr ok w1.heap.size t.l.length os ∧ Below w.heap.size w wr ∧ w.heap.size < w1.heap.size))
  case atStart => exact ⟨0, [], Nat.zero_le _, hidI rfl, rfl, hidI ⟨rfl, rfl⟩, K2⟩
  case round =>
    obtain ⟨k, os, hk, GK, rfl, AX, K3⟩ := hrel
    by_cases hlt : k < t.l.length
    · obtain ⟨b, off, a5, c5, a6, c6, rfl, j1, j2, g0, g1, g2, g3, g4, g5⟩ := (H.out.bel K3.out.2.2.1).item hlt
      have w1' : (k : Int) < (t.l.length : Int) := by omega
      have w2' : (0 : Int) ≤ (k : Int) := by omega
      have HI := hidI (g5.bel (bel_alloc wr (.cells #[.int .i64 t.l[k].kind, .int .i64 t.l[k].n, .string ⟨t.l[k].s.toArray⟩, .slice a5 t.l[k].keys.length c5, .slice a6 t.l[k].l.length c6] 25)))
      have B4 := hidI (bel_alloc wr (.cells #[.int .i64 t.l[k].kind, .int .i64 t.l[k].n, .string ⟨t.l[k].s.toArray⟩, .slice a5 t.l[k].keys.length c5, .slice a6 t.l[k].l.length c6] 25))
      have ST := hidI (fun x hx => allG_step (f := opF) hlt AX.out.1 (x := x) hx)
      have SN := hidI (fun hx => FB.out (allG_none (f := opF) (l := t.l) hlt hx))
      have NK := hidI (fun o ho => op_good (o := o) (nice_mem NT.out (List.getElem_mem hlt)) ho)
      clear g5
      cases hr : opF t.l[k] with
      | none =>
        have HA := hidI (SN.out hr)
        go_wp2_with (go_at_call 35; refine (operation_at _ ok t.l[k] _ (by exact HI.out) (by exact GG.out.bel (bel_trans K3.out.2.2.1 B4.out))).mono ?_; rintro e w5 ⟨o, a7, a8, c7, c8, rfl, hov, hoz, hb⟩; rw [hr]; have K5 : Hid (True ∧ Below w.heap.size w (w5.alloc (.cells #[.int .i64 o.kind, .string ⟨o.path.toArray⟩, .string ⟨o.frm.toArray⟩, .int .i64 o.value.kind, .int .i64 o.value.n, .string ⟨o.value.s.toArray⟩, .slice a7 o.value.keys.length c7, .slice a8 o.value.l.length c8] 43))) := hidI ⟨trivial, bel_trans K3.out.2.2.1 (bel_trans B4.out (bel_trans hb (bel_alloc _ _)))⟩; clear hb hov hoz)
        refine bodyPost_ret (v := .tuple #[.slice none 0 0, .int .i64 1]) (by simp [results, Tryd.results15, go_sem]) rfl ?_
        exact ⟨.slice none 0 0, by rw [HA.out], by rw [HA.out]; exact ⟨by simp, .inl ⟨rfl, none, rfl⟩⟩, K5.out.2⟩
      | some z =>
        go_upto_region 12 with (go_at_call 35; refine (operation_at _ ok t.l[k] _ (by exact HI.out) (by exact GG.out.bel (bel_trans K3.out.2.2.1 B4.out))).mono ?_; rintro e w5 ⟨o, a7, a8, c7, c8, rfl, hov, hoz, hb⟩; rw [hr]; obtain rfl := hoz _ hr; have HV := hidI (hov.bel (bel_alloc w5 (.cells #[.int .i64 o.kind, .string ⟨o.path.toArray⟩, .string ⟨o.frm.toArray⟩, .int .i64 o.value.kind, .int .i64 o.value.n, .string ⟨o.value.s.toArray⟩, .slice a7 o.value.keys.length c7, .slice a8 o.value.l.length c8] 43))); have hbb := bel_trans B4.out (bel_trans hb (bel_alloc w5 (.cells #[.int .i64 o.kind, .string ⟨o.path.toArray⟩, .string ⟨o.frm.toArray⟩, .int .i64 o.value.kind, .int .i64 o.value.n, .string ⟨o.value.s.toArray⟩, .slice a7 o.value.keys.length c7, .slice a8 o.value.l.length c8] 43))); have K5 : Hid (BoxIs (w5.alloc (.cells #[.int .i64 o.kind, .string ⟨o.path.toArray⟩, .string ⟨o.frm.toArray⟩, .int .i64 o.value.kind, .int .i64 o.value.n, .string ⟨o.value.s.toArray⟩, .slice a7 o.value.keys.length c7, .slice a8 o.value.l.length c8] 43)) w.heap.size (.int .i64 t.kind) (.int .i64 t.n) (.string ⟨t.s.toArray⟩) (.slice a1 t.keys.length c1) (.slice (some ⟨b, off, none⟩) t.l.length d1) ∧ RowO (w5.alloc (.cells #[.int .i64 o.kind, .string ⟨o.path.toArray⟩, .string ⟨o.frm.toArray⟩, .int .i64 o.value.kind, .int .i64 o.value.n, .string ⟨o.value.s.toArray⟩, .slice a7 o.value.keys.length c7, .slice a8 o.value.l.length c8] 43)) ok w1.heap.size t.l.length os ∧ Below w.heap.size w (w5.alloc (.cells #[.int .i64 o.kind, .string ⟨o.path.toArray⟩, .string ⟨o.frm.toArray⟩, .int .i64 o.value.kind, .int .i64 o.value.n, .string ⟨o.value.s.toArray⟩, .slice a7 o.value.keys.length c7, .slice a8 o.value.l.length c8] 43)) ∧ w.heap.size < w1.heap.size) := hidI ⟨box_bel hbb K3.out.1, K3.out.2.1.bel hbb, bel_trans K3.out.2.2.1 hbb, K3.out.2.2.2⟩; have BO : Hid (OBox (w5.alloc (.cells #[.int .i64 o.kind, .string ⟨o.path.toArray⟩, .string ⟨o.frm.toArray⟩, .int .i64 o.value.kind, .int .i64 o.value.n, .string ⟨o.value.s.toArray⟩, .slice a7 o.value.keys.length c7, .slice a8 o.value.l.length c8] 43)) w5.heap.size (.int .i64 o.kind) (.string ⟨o.path.toArray⟩) (.string ⟨o.frm.toArray⟩) (.int .i64 o.value.kind) (.int .i64 o.value.n) (.string ⟨o.value.s.toArray⟩) (.slice a7 o.value.keys.length c7) (.slice a8 o.value.l.length c8)) := hidI (heap_alloc_new w5 _); clear hb hov hoz hbb)
        obtain ⟨W5, hW5⟩ : ∃ W, w5.alloc (.cells #[.int .i64 o.kind, .string ⟨o.path.toArray⟩, .string ⟨o.frm.toArray⟩, .int .i64 o.value.kind, .int .i64 o.value.n, .string ⟨o.value.s.toArray⟩, .slice a7 o.value.keys.length c7, .slice a8 o.value.l.length c8] 43) = W := ⟨_, rfl⟩
        rw [hW5] at HV K5 BO ⊢
        clear hW5
        obtain ⟨⟨n0, n1, n2, n3, n4, n5, n6, n7⟩, -⟩ := BO.out.c
        obtain ⟨⟨u0, r0⟩, ⟨u1, r1⟩, ⟨u2, r2⟩, ⟨u3, r3⟩, ⟨u4, r4⟩, ⟨u5, r5⟩, ⟨u6, r6⟩, ⟨u7, r7⟩, rf⟩ := K5.out.2.1.at hlt
        have f0 := rf (k * 8)
        have f1 := rf (k * 8 + 1)
        have f2 := rf (k * 8 + 2)
        have f3 := rf (k * 8 + 3)
        have f4 := rf (k * 8 + 4)
        have f5 := rf (k * 8 + 5)
        have f6 := rf (k * 8 + 6)
        have f7 := rf (k * 8 + 7)
        have gs := set8a_gb W5 w1.heap.size (k * 8) (.int .i64 o.kind) (.string ⟨o.path.toArray⟩) (.string ⟨o.frm.toArray⟩) (.int .i64 o.value.kind) (.int .i64 o.value.n) (.string ⟨o.value.s.toArray⟩) (.slice a7 o.value.keys.length c7) (.slice a8 o.value.l.length c8)
        have FIN : Hid (BoxIs (set8a W5 w1.heap.size (k * 8) (.int .i64 o.kind) (.string ⟨o.path.toArray⟩) (.string ⟨o.frm.toArray⟩) (.int .i64 o.value.kind) (.int .i64 o.value.n) (.string ⟨o.value.s.toArray⟩) (.slice a7 o.value.keys.length c7) (.slice a8 o.value.l.length c8)) w.heap.size (.int .i64 t.kind) (.int .i64 t.n) (.string ⟨t.s.toArray⟩) (.slice a1 t.keys.length c1) (.slice (some ⟨b, off, none⟩) t.l.length d1) ∧ RowO (set8a W5 w1.heap.size (k * 8) (.int .i64 o.kind) (.string ⟨o.path.toArray⟩) (.string ⟨o.frm.toArray⟩) (.int .i64 o.value.kind) (.int .i64 o.value.n) (.string ⟨o.value.s.toArray⟩) (.slice a7 o.value.keys.length c7) (.slice a8 o.value.l.length c8)) ok w1.heap.size t.l.length (os ++ [o]) ∧ Below w.heap.size w (set8a W5 w1.heap.size (k * 8) (.int .i64 o.kind) (.string ⟨o.path.toArray⟩) (.string ⟨o.frm.toArray⟩) (.int .i64 o.value.kind) (.int .i64 o.value.n) (.string ⟨o.value.s.toArray⟩) (.slice a7 o.value.keys.length c7) (.slice a8 o.value.l.length c8)) ∧ w.heap.size < w1.heap.size) := hidI ⟨K5.out.1.grown gs (by have := K5.out.2.2.2; simp; omega), (by
          have q := K5.out.2.1.push (by have := AX.out.2; omega) o (NK.out o hr) HV.out (fun k hk => by have := H0.out k hk; have := K5.out.2.2.2; omega)
          rw [AX.out.2] at q
          exact q), gb_none (gb_out (gb_below K5.out.2.2.1) gs (by have := K5.out.2.2.2; omega)), K5.out.2.2.2⟩
        clear gs rf
        go_wp2_with fail
        go_roundg (t.l.length - (k + 1))
        case measure => rw [GK.out]; omega
        case rel => exact ⟨k + 1, os ++ [o], hlt, hidI rfl, by go_num, hidI ⟨ST.out o hr, by simp [AX.out.2]⟩, hidI (by exact FIN.out)⟩
    · have d1' : ¬ (k : Int) < (t.l.length : Int) := by omega
      have hke : k = t.l.length := by omega
      have HA := hidI (FO.out os (allG_all AX.out.1 hlt))
      have HE : Hid (os.length = t.l.length) := hidI (by rw [AX.out.2, hke])
      clear hke
      go_wp2_with fail
      refine bodyPost_ret (v := .tuple #[.slice (some ⟨w1.heap.size, 0, none⟩) t.l.length t.l.length, .int .i64 0]) (by simp [results, Tryd.results15, go_sem]) rfl ?_
      exact ⟨.slice (some ⟨w1.heap.size, 0, none⟩) t.l.length t.l.length, by rw [HA.out], by rw [HA.out]; exact K3.out.2.1.done HE.out HL.out (.inr (by have := K3.out.2.2.2; omega)) (fun k hk => .inl hk), K3.out.2.2.1⟩

theorem pread_at (w : World) (ok : Nat → Prop) (t : V) (v : Value) (h : In w ok t v) (hG : GlobW w) : Calls Tryd.prog 15 #[v] w fun e w' => ∃ sl, e = .returned (.tuple #[sl, .int .i64 (readOF t).2]) ∧ OpsAre w' (okN ok w.heap.size) (readOF t).1 sl ∧ Below w.heap.size w w' := by
  have key : Calls Tryd.prog 15 #[v] w fun e w' => ∃ sl, e = .returned (.tuple #[sl, .int .i64 (readOF t).2]) ∧ OpsAre w' (okN (fun k => ok k ∧ k < w.heap.size) w.heap.size) (readOF t).1 sl ∧ Below w.heap.size w w' := by
    replace h := h.low
    have h0 : ∀ k, (fun k => ok k ∧ k < w.heap.size) k → k < w.heap.size := fun k hk => hk.2
    by_cases hk : t.kind = 4
    · cases hg : goodV t with
      | false => exact pread_bad w _ t v h h0 hG hk hg
      | true =>
        by_cases hl : t.l.length ≤ 20
        · exact pread_list w _ t v h h0 hG hk hg hl
        · exact pread_long w _ t v h h0 hG hk hg (by omega)
    · exact pread_kind w _ t v h h0 hG hk
  refine key.mono ?_
  rintro e w' ⟨sl, e1, e2, e3⟩
  refine ⟨sl, e1, ?_, e3⟩
  refine ⟨e2.1, ?_⟩
  rcases e2.2 with h | ⟨b, off, c, e, h1, h2, h3⟩
  · exact .inl h
  · refine .inr ⟨b, off, c, e, h1, h2, fun i o ho => ?_⟩
    obtain ⟨v0, v1, v2, v3, v4, v5, v6, v7, hk, g0, g1, g2, g3, g4, g5, g6, g7, g8⟩ := h3 i o ho
    have imp : ∀ k, okN (fun k => ok k ∧ k < w.heap.size) w.heap.size k → okN ok w.heap.size k := fun k hk => hk.imp And.left id
    exact ⟨v0, v1, v2, v3, v4, v5, v6, v7, imp _ hk, g0, g1, g2, g3, g4, g5, g6, g7, g8.weak imp⟩
end Go.Proofs.YtaifciobaapehaaDoor

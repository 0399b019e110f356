/- Whatever act it is handed, ServerNil answers true and leaves all as it was.
   Its conditions: the listed package-level variables hold what the program's text lays (the card ties them, over a pruned copy of the project). -/
import Derived.Test.YtmclhhgccinhpaaGreatDoorNa
import Derived.Carry
import Derived.ChangeOld
set_option linter.unusedSimpArgs false
set_option linter.unusedVariables false
namespace Go.Proofs.YtmclhhgccinhpaaGreatDoor.serverNil
open Go.ChangeShapes Go.WideShapes Go.ChangeAt Go.RowKit
open Go.ChangeMaps (open_string shut_string)

structure Actn where
  kind : Int
  name : List UInt8
  who : List UInt8
  body : List UInt8
  ver : Int
  n : Int
  order : Int
  force : Bool
def actV (a : Actn) : Value := .agg #[.int .i64 a.kind, .string ⟨a.name.toArray⟩, .string ⟨a.who.toArray⟩, .string ⟨a.body.toArray⟩, .int .i64 a.ver, .int .i64 a.n, .int .i64 a.order, .bool a.force]
set_option maxRecDepth 100000
theorem cInt : Tryz.prog.cellsOf 3 = 1 := by kernel_rfl
theorem cBool : Tryz.prog.cellsOf 4 = 1 := by kernel_rfl
theorem cAct : Tryz.prog.cellsOf 23 = 8 := by kernel_rfl
theorem laidOut : laidOutB Tryz.prog = true := by kernel_rfl
theorem readableA : Tryz.prog.readableRec 23 = true := by kernel_rfl
theorem rowedA : 23 < Tryz.prog.types.size := of_decide_eq_true (by kernel_rfl)
theorem trod_old {H : Type} {enc : TypeId × Value → H} {W : World} {t : TypeId} {v : Value} {d : DataW H} {p : List MemPlace} (h : DataW.Trod enc Tryz.prog W 0 (fun _ => true) true t v d p) : ∀ x ∈ p, x.block < W.heap.size := by
  obtain ⟨f, hf⟩ := h
  exact DataW.trod_lt f t _ _ hf
theorem arg_act {H : Type} {enc : TypeId × Value → H} {W : World} {base : Nat} {v : Value} {d : DataW H} {p : List MemPlace} (hk : Value.okWide Tryz.prog W .any base 23 v) (h : DataW.Trod enc Tryz.prog W 0 (fun _ => true) true 23 v d p) :
    ∃ s, v = actV s := by
  obtain ⟨cs, rfl, -⟩ := okWide_struct Tryz.underlying23 hk
  obtain ⟨f, hf⟩ := h
  have hf2 : DataW.trod enc Tryz.prog W 0 (fun _ => true) true f 23 cs.toList = some (d, p) := hf
  obtain ⟨cl⟩ := cs
  simp only at hf2
  obtain ⟨xs, n, e, hx, hl, hlen, hg⟩ := DataW.trod_struct Tryz.underlying23 hf2
  rw [cAct] at hl
  match cl, hl, xs, hlen with
  | [v0, v1, v2, v3, v4, v5, v6, v7], _, [y0, y1, y2, y3, y4, y5, y6, y7], _ =>
    have g0 : DataW.trod enc Tryz.prog W 0 (fun _ => true) true n 3 [v0] = some y0 := by simpa [cellsString, cInt, cBool] using hg 0 _ rfl
    have g1 : DataW.trod enc Tryz.prog W 0 (fun _ => true) true n 9 [v1] = some y1 := by simpa [cellsString, cInt, cBool] using hg 1 _ rfl
    have g2 : DataW.trod enc Tryz.prog W 0 (fun _ => true) true n 9 [v2] = some y2 := by simpa [cellsString, cInt, cBool] using hg 2 _ rfl
    have g3 : DataW.trod enc Tryz.prog W 0 (fun _ => true) true n 9 [v3] = some y3 := by simpa [cellsString, cInt, cBool] using hg 3 _ rfl
    have g4 : DataW.trod enc Tryz.prog W 0 (fun _ => true) true n 3 [v4] = some y4 := by simpa [cellsString, cInt, cBool] using hg 4 _ rfl
    have g5 : DataW.trod enc Tryz.prog W 0 (fun _ => true) true n 3 [v5] = some y5 := by simpa [cellsString, cInt, cBool] using hg 5 _ rfl
    have g6 : DataW.trod enc Tryz.prog W 0 (fun _ => true) true n 3 [v6] = some y6 := by simpa [cellsString, cInt, cBool] using hg 6 _ rfl
    have g7 : DataW.trod enc Tryz.prog W 0 (fun _ => true) true n 4 [v7] = some y7 := by simpa [cellsString, cInt, cBool] using hg 7 _ rfl
    obtain ⟨z0, e0, -, -⟩ := DataW.trod_int Tryz.underlying3 g0
    obtain ⟨s1, e1, -, -⟩ := DataW.trod_string Tryz.underlying9 g1
    obtain ⟨s2, e2, -, -⟩ := DataW.trod_string Tryz.underlying9 g2
    obtain ⟨s3, e3, -, -⟩ := DataW.trod_string Tryz.underlying9 g3
    obtain ⟨z4, e4, -, -⟩ := DataW.trod_int Tryz.underlying3 g4
    obtain ⟨z5, e5, -, -⟩ := DataW.trod_int Tryz.underlying3 g5
    obtain ⟨z6, e6, -, -⟩ := DataW.trod_int Tryz.underlying3 g6
    obtain ⟨b7, e7, -⟩ := DataW.trod_bool Tryz.underlying4 g7
    simp only [List.cons.injEq, and_true] at e0 e1 e2 e3 e4 e5 e6 e7
    subst e0 e1 e2 e3 e4 e5 e6 e7
    exact ⟨⟨z0, s1.data.toList, s2.data.toList, s3.data.toList, z4, z5, z6, b7⟩, by simp [actV]⟩

theorem refused_b (w : World) (n : Int) : Calls Tryz.prog 7 #[.int .i64 n] w fun e w' => e = .returned (.agg #[.int .i64 n, .int .i64 0, .string ⟨#[]⟩]) ∧ Below w.heap.size w w' := by
  go_enter Tryz.func7, Tryz.ntmps7
  go_wp2_with fail
  refine bodyPost_ret (v := .agg #[.int .i64 n, .int .i64 0, .string ⟨#[]⟩]) ?_ rfl ⟨rfl, bel_alloc _ _⟩
  simp [results, Tryz.results7, go_sem]
def RBox (w : World) (g : Nat) (c n : Int) (b : List UInt8) : Prop := w.heap[g]? = some (.cells #[.int .i64 c, .int .i64 n, .string ⟨b.toArray⟩] 27)
theorem RBox.c {w : World} {g : Nat} {c n : Int} {b : List UInt8} (h : RBox w g c n b) : w.cell? ⟨g, 0, none⟩ = some (.int .i64 c) ∧ w.cell? ⟨g, 1, none⟩ = some (.int .i64 n) ∧ w.cell? ⟨g, 2, none⟩ = some (.string ⟨b.toArray⟩) ∧ w.frozen? ⟨g, 0, none⟩ = false ∧ w.frozen? ⟨g, 1, none⟩ = false ∧ w.frozen? ⟨g, 2, none⟩ = false := by
  unfold RBox at h
  refine ⟨?_, ?_, ?_, ?_, ?_, ?_⟩ <;> simp [World.cell?, World.frozen?, h]
theorem RBox.bel {w w' : World} {g : Nat} {c n : Int} {b : List UInt8} (h : RBox w g c n b) (hb : Below w.heap.size w w') : RBox w' g c n b := (hb.block g (Array.getElem?_eq_some_iff.1 h).1).trans h
theorem RBox.set {w : World} {g : Nat} {c n : Int} {b : List UInt8} (h : RBox w g c n b) (c' n' : Int) (b' : List UInt8) : RBox (((w.setCell ⟨g, 0, none⟩ (.int .i64 c')).setCell ⟨g, 1, none⟩ (.int .i64 n')).setCell ⟨g, 2, none⟩ (.string ⟨b'.toArray⟩)) g c' n' b' := heap_set (heap_set (heap_set h 0 _) 1 _) 2 _
theorem rbel_set {a w : World} {g : Nat} (h : Below a.heap.size a w) (hg : a.heap.size ≤ g) (i : Nat) (v : Value) : Below a.heap.size a (w.setCell ⟨g, i, none⟩ v) := by
  have k := gb_set (gb_refl w (some g)) i v
  exact ⟨k.os.trans h.os, k.tape.trans h.tape, k.output.trans h.output, Nat.le_trans h.size k.size, fun j hj => (k.block j (Nat.lt_of_lt_of_le hj h.size) (fun e => by cases e; omega)).trans (h.block j hj)⟩
theorem do_nil (w : World) (a : Actn) : Calls Tryz.prog 4 #[.pointer none, actV a] w fun e w' => e = .returned (.agg #[.int .i64 3, .int .i64 0, .string ⟨#[]⟩]) ∧ Below w.heap.size w w' := by
  unfold actV
  have R0 : Hid (∀ o, RBox ((w.alloc o).alloc (.cells #[.int .i64 0, .int .i64 0, .string ⟨#[]⟩] 27)) (w.heap.size + 1) 0 0 [] ∧ Below w.heap.size w ((w.alloc o).alloc (.cells #[.int .i64 0, .int .i64 0, .string ⟨#[]⟩] 27))) := hidI (fun o => ⟨h2b w _ _, bel_trans (bel_alloc _ _) (bel_alloc _ _)⟩)
  go_enter Tryz.func4, Tryz.ntmps4
  go_wp2_with (go_at_call 7; refine (refused_b _ 3).mono ?_; rintro e w1 ⟨rfl, hb⟩; have R1 := hidI ((R0.out _).1.bel hb); have B1 := hidI (bel_trans (R0.out _).2 hb); obtain ⟨c0, c1, c2, c3, c4, c5⟩ := R1.out.c; clear hb)
  obtain ⟨z0, z1, z2, -⟩ := (R1.out.set 3 0 []).c
  refine bodyPost_ret (v := .agg #[.int .i64 3, .int .i64 0, .string ⟨#[]⟩]) ?_ rfl ⟨rfl, rbel_set (rbel_set (rbel_set B1.out (by omega) _ _) (by omega) _ _) (by omega) _ _⟩
  simp [results, Tryz.results4, go_sem, z0, z1, z2]
theorem things_nil (w : World) : Calls Tryz.prog 5 #[.pointer none] w fun e w' => e = .returned (.slice none 0 0) ∧ Below w.heap.size w w' := by
  go_enter Tryz.func5, Tryz.ntmps5
  go_wp2_with fail
  go_ret
  exact ⟨rfl, Below.refl _ _⟩
theorem time_nil (w : World) : Calls Tryz.prog 6 #[.pointer none] w fun e w' => e = .returned (.int .i64 0) ∧ Below w.heap.size w w' := by
  go_enter Tryz.func6, Tryz.ntmps6
  go_wp2_with fail
  go_ret
  exact ⟨rfl, Below.refl _ _⟩
theorem nil_walk (w : World) (a : Actn) : Calls Tryz.prog 3 #[actV a] w fun e w' => e = .returned (.bool true) ∧ Below w.heap.size w w' := by
  have E := actV.eq_1 a
  rw [E]
  go_enter Tryz.func3, Tryz.ntmps3
  go_wp2_with (first
    | (go_at_call 4; rw [← E]; refine (do_nil _ a).mono ?_; rintro e w1 ⟨rfl, hb1⟩)
    | (go_at_call 5; refine (things_nil _).mono ?_; rintro e w2 ⟨rfl, hb2⟩)
    | (go_at_call 6; refine (time_nil _).mono ?_; rintro e w3 ⟨rfl, hb3⟩))
  go_ret
  exact ⟨rfl, bel_trans (bel_trans (bel_trans (bel_alloc _ _) hb1) hb2) hb3⟩

theorem contract (H : Type) (enc : TypeId × Value → H) (W : World) (base : Nat) (args : Array Value) (ds gs : List (DataW H)) (before : List MemPlace)
    (hval : ∀ (j : Nat) t v, Tryz.f3.params[j]? = some t → args[j]? = some v → Value.okWide Tryz.prog W .any base t v)
    (hW : DataW.Whole enc Tryz.prog Tryz.f3.params.toList Rows.serverNilSpec.vars false W args.toList ds gs before) :
    Calls Tryz.prog 3 args W fun e W' => ∃ v, e = .returned v ∧ Rows.serverNilSpec.post enc Tryz.prog Tryz.f3 false true false false W args v W' := by
  have hW' := hW
  obtain ⟨p, q, hA0, hV, rfl, hfz, hnd⟩ := hW
  have hA : DataW.TrodAll enc Tryz.prog W 0 (fun _ => true) true Tryz.f3.params.toList args.toList ds p := hA0
  rw [Tryz.params3] at hA hval
  obtain ⟨v0, vs0, d0, ds0, p0, q0, hargs0, rfl, rfl, h0, r0⟩ := trodAll_cons hA
  obtain ⟨rfl, rfl, rfl⟩ := trodAll_nil r0
  have hargs : args = #[v0] := by
    obtain ⟨l⟩ := args
    exact congrArg Array.mk hargs0
  subst hargs
  obtain ⟨rfl, rfl⟩ := trodVars_none hV
  have k0 : Value.okWide Tryz.prog W .any base 23 v0 := hval 0 _ _ (by simp) (by simp)
  obtain ⟨s0, ev0⟩ := arg_act k0 h0
  clear hA0
  simp only [List.append_nil] at hW'
  have walk := nil_walk W s0
  rw [← ev0] at walk
  refine walk.mono fun e W' ⟨he, hg⟩ => ?_
  subst he
  have ef : Rows.serverNilSpec.fn H ([d0] ++ []) = { results := [.lit (.bool true)], args := [d0] } := rfl
  refine ⟨_, rfl, _, _, _, [], (p0 ++ []), [], hW', ?_, ?_, ?_, hg.frame _, fun h => by cases h⟩
  · rw [ef]; exact trodAll_mk1 (shut_bool Tryz.underlying4 _)
  · rw [ef, Tryz.params3]; exact trodAll_cons_mk (Below.trod laidOut readableA rowedA h0 hg (trod_old h0)) trodAll_mk0
  · rw [ef]; rfl

theorem reads (os : Os) {H : Type} (enc : TypeId × Value → H) : ∃ places, DataW.whole enc Tryz.prog ((topWorld os).forCall (fun _ _ => 0) ⟨#[], #[.agg #[.int .i64 0, .string ⟨#[]⟩, .string ⟨#[]⟩, .string ⟨#[]⟩, .int .i64 0, .int .i64 0, .int .i64 0, .bool false]], []⟩).memory Tryz.f3.params.toList Rows.serverNilSpec.vars false #[Value.agg #[.int .i64 0, .string ⟨#[]⟩, .string ⟨#[]⟩, .string ⟨#[]⟩, .int .i64 0, .int .i64 0, .int .i64 0, .bool false]].toList 8 = some ([.agg [.lit (.int .i64 0), .lit (.string []), .lit (.string []), .lit (.string []), .lit (.int .i64 0), .lit (.int .i64 0), .lit (.int .i64 0), .lit (.bool false)]], [], places) :=
  ⟨[], by kernel_rfl⟩

theorem lifted (os : Os) (started : os.Started) (H : Type) (enc : TypeId × Value → H) (F : Stop.Interp) :
    ReturnsInHanded {} Tryz.checked os 3 .any ((OpenSpec.ofChange Rows.serverNilSpec).preRow enc Tryz.prog Tryz.f3 Rows.serverNilRow.domain false Rows.serverNilRow.laid) (((OpenSpec.ofChange Rows.serverNilSpec).at F).post enc Tryz.prog Tryz.f3 false true false false) := by
  obtain ⟨places, hx⟩ := reads os enc
  refine returnsInHanded_of_row (C := Tryz.checked) (s := OpenSpec.ofChange Rows.serverNilSpec) own started (by kernel_rfl) Tryz.func3
    (witness_row_at (enc := enc) (C := Tryz.checked) false (topWorld os) #[.agg #[.int .i64 0, .string ⟨#[]⟩, .string ⟨#[]⟩, .string ⟨#[]⟩, .int .i64 0, .int .i64 0, .int .i64 0, .bool false]] rfl (by kernel_rfl) (by kernel_rfl) (by kernel_rfl)
      (OpenSpec.preRow_of_cond 8 hx (by kernel_rfl) (fun k hk => by cases hk) (by kernel_rfl) (top_met os _))) ?_
  intro W base args ds gs before hval hW _ _ hZ hL _ _
  exact contract H enc W base args ds gs before hval hW

theorem said : Rows.ServerNilSaid :=
  OpenClaim.holds_of_cond 3 Tryz.f3 rfl rfl rfl rfl rfl rfl rfl ⟨rfl, rfl, rfl, rfl, rfl⟩ rfl rfl rfl rfl rfl (by kernel_rfl) Tryz.func3 (by kernel_rfl)
    (of_decide_eq_true (by kernel_rfl)) (by unfold Func.isWrapper; first | (rw [if_pos (by decide +kernel)]; kernel_rfl) | (rw [if_neg (by decide +kernel)]; exact ⟨rfl, rfl⟩))
    (fun os started H enc _ F => by rw [OpenClaim.pre_eq_preRow]; exact lifted os started H enc F)

theorem plain (f : FuncId) (fn : Func) (hf : Tryz.pinned.checked.prog.funcNamed "stairwell/stairwelllaw.ServerNil" = some f) (hfn : Tryz.pinned.checked.prog.funcs[f]? = some fn) :
    true = Tryz.pinned.checked.prog.looks [] ∧ ∀ (j : Nat) t, fn.params[j]? = some t → Tryz.pinned.checked.prog.wantsStandIn t = false := by
  obtain rfl : f = 3 := Option.some.inj ((show Tryz.prog.funcNamed "stairwell/stairwelllaw.ServerNil" = some 3 by kernel_rfl).symm.trans hf) |>.symm
  obtain rfl : fn = Tryz.f3 := (Option.some.inj (Tryz.func3.symm.trans hfn)).symm
  refine ⟨by kernel_rfl, fun j t ht => ?_⟩
  rw [Tryz.params3] at ht
  have hm := Array.mem_of_getElem? ht
  simp only [Array.mem_def, List.mem_cons, List.not_mem_nil, or_false] at hm
  subst hm
  exact (show Tryz.prog.wantsStandIn 23 = false by kernel_rfl)

theorem card : Rows.ServerNilCardSaid :=
  Claim7.holds_tied_plain_at .later [] _ _ _ _ said (fun _ h => by cases h) (by kernel_rfl) (fun _ h => by cases h) serverNil_row_tie rfl ⟨rfl, rfl⟩ (by kernel_rfl) rfl plain (by kernel_rfl)
end Go.Proofs.YtmclhhgccinhpaaGreatDoor.serverNil

/- Whatever it is handed, PointSplits answers true and leaves all as it was.
   Its conditions: what it is handed is of bulk at most 1048576 (values and letters); the listed package-level variables hold what the program's text lays (the card ties them, over a pruned copy of the project). -/
import Derived.Test.YtfbddgpekbhpfabDoorXo
import Derived.Test.YtfbddgpekbhpfabDoorGWi
import Derived.Test.YtfbddgpekbhpfabDoorGWj
import Derived.Test.YtfbddgpekbhpfabDoorGKj
/- What points of package stairwelllaw does. -/
set_option linter.unusedSimpArgs false
set_option linter.unusedVariables false
namespace Go.Proofs.YtfbddgpekbhpfabDoor
open Go.RowKit

set_option maxRecDepth 100000 in
set_option maxHeartbeats 4000000 in
theorem lpoints_at (w : World) (hM : GlobM w) : Calls Tryd.prog 20 #[] w fun e w' => e = .returned (.bool true) ∧ Below w.heap.size w w' := by
  obtain ⟨T, hT, hG⟩ := pt_add
  have HT := hidI hT
  have HG := hidI hG
  have HMM := hidI hM
  clear hT hG hM
  go_enter Tryd.func20, Tryd.ntmps20
  go_wp2_with fail
  refine (add_is _ (fun _ => True) ptT ptX _ _ ptP (by exact in_leaf _ _ 5 0 (pt_i64 _ (by omega) (by omega)) (pt_i64 _ (by omega) (by omega))) (by exact in_leaf _ _ 2 3 (pt_i64 _ (by omega) (by omega)) (pt_i64 _ (by omega) (by omega))) (by decide) (by exact HMM.out)).mono ?_
  rintro e w1 ⟨r, rfl, hb1, hr⟩
  rw [HT.out] at hr ⊢
  simp only at hr ⊢
  obtain ⟨a5, a6, c5, c6, rfl⟩ := hr.form
  have K1 : Hid (BoxIs (w1.alloc (.cells #[.int .i64 T.kind, .int .i64 T.n, .string ⟨T.s.toArray⟩, .slice a5 T.keys.length c5, .slice a6 T.l.length c6] 25)) w1.heap.size (.int .i64 T.kind) (.int .i64 T.n) (.string ⟨T.s.toArray⟩) (.slice a5 T.keys.length c5) (.slice a6 T.l.length c6) ∧ Below w.heap.size w (w1.alloc (.cells #[.int .i64 T.kind, .int .i64 T.n, .string ⟨T.s.toArray⟩, .slice a5 T.keys.length c5, .slice a6 T.l.length c6] 25)) ∧
      In (w1.alloc (.cells #[.int .i64 T.kind, .int .i64 T.n, .string ⟨T.s.toArray⟩, .slice a5 T.keys.length c5, .slice a6 T.l.length c6] 25)) (okN (fun _ => True) w.heap.size) T (.agg #[.int .i64 T.kind, .int .i64 T.n, .string ⟨T.s.toArray⟩, .slice a5 T.keys.length c5, .slice a6 T.l.length c6])) := ⟨heap_alloc_new w1 _, bel_trans hb1 (bel_alloc _ _), hr.bel (bel_alloc _ _)⟩
  obtain ⟨q0, q1, q2, q3, q4, -⟩ := K1.out.1.c
  clear hb1 hr
  go_wp2_with fail
  refine (get_is _ _ T _ ptP (by exact K1.out.2.2) (by decide) (by exact HMM.out.bel K1.out.2.1)).mono ?_
  rintro e w2 ⟨r, rfl, hb2, hr⟩
  rw [HG.out] at hr ⊢
  simp only at hr ⊢
  obtain ⟨b5, b6, d5, d6, rfl⟩ := hr.form
  have HB := hidI (bel_trans K1.out.2.1 (bel_trans hb2 (bel_alloc w2 (.cells #[.int .i64 ptX.kind, .int .i64 ptX.n, .string ⟨ptX.s.toArray⟩, .slice b5 ptX.keys.length d5, .slice b6 ptX.l.length d6] 25))))
  have n3 : ptX.n = 3 := rfl
  clear hb2 hr q0 q1 q2 q3 q4 K1
  go_wp2_with fail
  go_ret
  exact ⟨rfl, HB.out⟩
end Go.Proofs.YtfbddgpekbhpfabDoor

/- What PointSplits of package stairwelllaw answers. -/
set_option linter.unusedSimpArgs false
set_option linter.unusedVariables false
namespace Go.Proofs.YtfbddgpekbhpfabDoor
open Go.RowKit

theorem join_each {l : List (List UInt8)} {x : List UInt8} (h : x ∈ l) : x.length ≤ (joinP l).length := by
  induction l with
  | nil => cases h
  | cons y l ih =>
    have e : joinP (y :: l) = 47 :: (markedL y ++ joinP l) := by simp [joinP]
    have h2 : y.length ≤ (markedL y).length := by
      rw [marked_eq]
      clear ih e h
      induction y with
      | nil => simp
      | cons c y ih =>
        have : 1 ≤ (escP c).length := by
          unfold escP
          split
          · simp
          · split <;> simp
        simp only [List.flatMap_cons, List.length_append, List.length_cons]
        omega
    rw [e]
    simp only [List.length_cons, List.length_append]
    rcases List.mem_cons.1 h with rfl | h
    · omega
    · have := ih h; omega
theorem append_held {P : Program} (w : World) {ops : Array Oper} {rest : List Oper} {o : Oper} {a : Act} {Q : Exit → Act → World → Prop} (hgd : Region.wanted o (yielded ops a.tmps) = true) (s x : Operand) (t tn : TypeId)
    (ho : o.op = .call { callee := .builtin .append, args := #[s, x], argTypes := #[t, tn] }) (vs vx : Value) (hs : a.eval s = vs) (hx : a.eval x = vx)
    (v' : Value) (w' : World) (hr : (Builtin.append_ #[t, tn] o.type #[vs, vx]).run P w = .ok v' w')
    (h : wpList P ops Q rest (a.put o.dst v') w') : wpList P ops Q (o :: rest) a w := by
  unfold wpList
  rw [if_pos hgd]
  exact .inl (Lib.wp_append_run w s x t tn ho vs vx hs hx v' w' hr h)
open Classical in
set_option maxRecDepth 100000 in
set_option maxHeartbeats 8000000 in
theorem pointSplits_walk (w : World) (p : List UInt8) (hp : p.length ≤ 140737488351232) (l : List (List UInt8)) (v : Value) (hl : StrsAre w (fun _ => True) l v) (hj : (joinP l).length ≤ 10000000) (hM : GlobM w) :
    Calls Tryd.prog 4 #[str p, v] w fun e w' => e = .returned (.bool true) ∧ Below w.heap.size w w' := by
  have HL := hidI hl
  have HM := hidI hM
  have HP := hidI hp
  have HJ := hidI hj
  have HE : Hid (∀ x ∈ l, x.length ≤ 10000000) := hidI (fun x hx => Nat.le_trans (join_each hx) hj)
  have LL : Hid (l.length ≤ 10000000) := hidI (by
    have : ∀ (l : List (List UInt8)), l.length ≤ (joinP l).length := by
      intro l
      induction l with
      | nil => simp
      | cons x l ih =>
        have e : joinP (x :: l) = 47 :: (markedL x ++ joinP l) := by simp [joinP]
        rw [e]; simp only [List.length_cons, List.length_append]; omega
    exact Nat.le_trans (this l) hj)
  obtain ⟨a1, c1, rfl⟩ := hl.form
  clear hl hM hp hj
  obtain ⟨ns, hns⟩ : ∃ ns, (splitP p).1 = ns := ⟨_, rfl⟩
  obtain ⟨i1, hi1⟩ : ∃ i, (splitP p).2 = i := ⟨_, rfl⟩
  have HNS := hidI hns
  have HI := hidI hi1
  clear hns hi1
  go_enter Tryd.func4, Tryd.ntmps4
  go_wp2_with fail
  refine (split_all _ p HP.out (by exact HM.out)).mono ?_
  rintro e w1 h1
  have S1 : ∃ v1, e = .returned (.tuple #[v1, .int .i64 i1]) ∧ Below w.heap.size w w1 ∧ StrsAre w1 (fun _ => True) ns v1 := by
    obtain ⟨b, ee, a, cap, rfl, hs, hst, hb⟩ := h1
    have e1 : ns = b := by rw [← HNS.out, hs]
    have e2 : i1 = ee := by rw [← HI.out, hs]
    subst e1
    subst e2
    exact ⟨_, rfl, hb, hst.imp fun a x _ h => ⟨trivial, h⟩⟩
  obtain ⟨v1, rfl, hb1, hv1⟩ := S1
  obtain ⟨a2, c2, rfl⟩ := hv1.form
  have K1 : Hid (Below w.heap.size w w1 ∧ StrsAre w1 (fun _ => True) ns (.slice a2 ns.length c2)) := hidI ⟨hb1, hv1⟩
  clear h1 hb1 hv1
  go_wp2_with fail
  refine (rsplit_is _ p HP.out).mono ?_
  rintro e w2 ⟨v2, rfl, hb2, hv2⟩
  rw [HI.out]
  rw [HNS.out] at hv2
  obtain ⟨a3, c3, rfl⟩ := hv2.form
  have K2 : Hid (Below w.heap.size w w2 ∧ StrsAre w2 (fun _ => True) ns (.slice a2 ns.length c2) ∧ StrsAre w2 (fun _ => True) ns (.slice a3 ns.length c3)) := hidI ⟨bel_trans K1.out.1 hb2, K1.out.2.bel hb2, hv2.imp fun a x _ h => ⟨trivial, h⟩⟩
  clear hb2 hv2
  go_wp2_with fail
  refine (lsameTexts_is _ _ _ ns ns _ _ (by exact K2.out.2.1) (by exact K2.out.2.2)).mono ?_
  rintro e w3 ⟨rfl, hb3⟩
  have ed : decide (ns = ns) = true := decide_eq_true rfl
  rw [ed]
  have K3 : Hid (Below w.heap.size w w3) := hidI (bel_trans K2.out.1 hb3)
  clear hb3 ed
  obtain ⟨kv, w4, hR, hks, hb4⟩ := run_copyS w3 (fun _ => True) l _ (HL.out.bel K3.out) (by have := LL.out; omega) 22
  have HR := hidI hR
  obtain ⟨ka, kc, rfl⟩ := hks.form
  have K4 : Hid (Below w.heap.size w w4 ∧ StrsAre w4 (fun k => w3.heap.size ≤ k) l (.slice ka l.length kc)) := hidI ⟨bel_trans K3.out hb4, hks⟩
  clear hR hks hb4
  go_wp2_with (at_builtin; go_must (refine append_held _ rfl _ _ _ _ rfl (.slice none 0 0) (.slice a1 l.length c1) rfl rfl _ _ HR.out ?_); refine Hid.out ?_)
  refine hidI ?_
  go_wp2_with fail
  refine (join_at _ _ l _ (by exact K4.out.2) HE.out HJ.out (by exact HM.out.bel K4.out.1)).mono ?_
  rintro e w5 ⟨rfl, hb5⟩
  have K5 : Hid (Below w.heap.size w w5) := hidI (bel_trans K4.out.1 hb5)
  clear hb5
  go_wp2_with fail
  refine (rjoin_is _ (fun _ => True) l _ (by exact HL.out.bel K5.out) HJ.out).mono ?_
  rintro e w6 ⟨rfl, hb6⟩
  have K6 : Hid (Below w.heap.size w w6) := hidI (bel_trans K5.out hb6)
  clear hb6
  obtain ⟨jp, hjp⟩ : ∃ jp, str (joinP l) = .string jp := ⟨_, rfl⟩
  rw [hjp]
  clear hjp
  go_wp2_with fail
  refine (lpoints_at _ (by exact HM.out.bel K6.out)).mono ?_
  rintro e w7 ⟨rfl, hb7⟩
  have K7 : Hid (Below w.heap.size w w7) := hidI (bel_trans K6.out hb7)
  clear hb7
  go_wp2_with fail
  go_ret
  exact ⟨rfl, K7.out⟩
end Go.Proofs.YtfbddgpekbhpfabDoor

set_option linter.unusedSimpArgs false
set_option linter.unusedVariables false
namespace Go.Proofs.YtfbddgpekbhpfabDoor.pointSplits
open Go.ChangeShapes Go.WideShapes Go.ChangeAt Go.RowKit
open Go.ChangeMaps (open_string shut_string)

set_option maxRecDepth 100000 in
theorem contract (H : Type) (enc : TypeId × Value → H) (W : World) (base : Nat) (args : Array Value) (ds gs : List (DataW H)) (before : List MemPlace)
    (hval : ∀ (j : Nat) t v, Tryd.f4.params[j]? = some t → args[j]? = some v → Value.okWide Tryd.prog W .any base t v)
    (hW : DataW.Whole enc Tryd.prog Tryd.f4.params.toList Rows.pointSplitsSpec.vars false W args.toList ds gs before)
    (hk : Rows.uptoSmall H (ds ++ gs) = true) (hZ : (DataW.weightsEach Tryd.prog (Tryd.f4.params.toList ++ (OpenSpec.ofChange Rows.pointSplitsSpec).bare.plain.varTypes Tryd.prog) (ds ++ gs)).all (· ≤ reachBytes) = true) (hS : W.ShapedOpen Tryd.prog) :
    Calls Tryd.prog 4 args W fun e W' => ∃ v, e = .returned v ∧ Rows.pointSplitsSpec.post enc Tryd.prog Tryd.f4 false true false false W args v W' := by
  have hW' := hW
  obtain ⟨p, q, hA0, hV, rfl, hfz, hnd⟩ := hW
  have hA : DataW.TrodAll enc Tryd.prog W 0 (fun _ => true) true Tryd.f4.params.toList args.toList ds p := hA0
  rw [Tryd.params4] at hA hval
  obtain ⟨v0, vs0, d0, ds0, p0, q0, hargs0, rfl, rfl, h0, r0⟩ := trodAll_cons hA
  obtain ⟨v1, vs1, d1, ds1, p1, q1, hargs1, rfl, rfl, h1, r1⟩ := trodAll_cons r0
  obtain ⟨rfl, rfl, rfl⟩ := trodAll_nil r1
  subst hargs1
  have hargs : args = #[v0, v1] := by
    obtain ⟨l⟩ := args
    exact congrArg Array.mk hargs0
  subst hargs
  obtain ⟨rfl, rfl⟩ := trodVars_none hV
  have k0 : Value.okWide Tryd.prog W .any base 9 v0 := hval 0 _ _ (by simp) (by simp)
  have k1 : Value.okWide Tryd.prog W .any base 22 v1 := hval 1 _ _ (by simp) (by simp)
  obtain ⟨s0, rfl, rfl, rfl, ws0⟩ := open_string Tryd.underlying9 k0 h0
  obtain ⟨l1, hv1, ln1⟩ := arg_strs_bulk k1 h1
  clear hA0
  simp only [List.append_nil] at hW'
  have hb := bulk_boundL hk
  simp only [List.append_nil, Rows.uptoBulkAll] at hb
  have l0 : s0.data.toList.length ≤ 140737488351232 := sized_string (j := 0) hZ (by rw [Tryd.params4]; rfl) rfl
  have e0 : Value.string s0 = str s0.data.toList := by unfold str; cases s0; simp
  have ll1 : (joinP l1).length ≤ 10000000 := by omega
  have walk := pointSplits_walk W s0.data.toList l0 l1 v1 hv1 ll1 (glob_pt hS)
  rw [← e0] at walk
  refine walk.mono fun e W' ⟨he, hg⟩ => ?_
  subst he
  have ef : Rows.pointSplitsSpec.fn H ([.lit (.string s0.data.toList), d1] ++ []) = { results := [.lit (.bool true)], args := [.lit (.string s0.data.toList), d1] } := rfl
  refine ⟨_, rfl, _, _, _, [], ([] ++ (p1 ++ [])), [], hW', ?_, ?_, ?_, hg.frame _, fun h => by cases h⟩
  · rw [ef]; exact trodAll_mk1 (shut_bool Tryd.underlying4 _)
  · rw [ef, Tryd.params4]; exact trodAll_cons_mk (shut_string Tryd.underlying9 ws0) (trodAll_cons_mk (Below.trod laidOut readableL rowedL h1 hg (trod_old h1)) (trodAll_mk0))
  · rw [ef]; rfl

set_option maxRecDepth 100000 in
theorem reads (os : Os) {H : Type} (enc : TypeId × Value → H) : ∃ places, DataW.whole enc Tryd.prog ((ptWorld os).forCall (fun _ _ => 0) ⟨#[], #[.string ⟨#[]⟩, .slice none 0 0], []⟩).memory Tryd.f4.params.toList Rows.pointSplitsSpec.vars false #[Value.string ⟨#[]⟩, Value.slice none 0 0].toList 8 = some ([.lit (.string []), .nil], [], places) :=
  ⟨[], by kernel_rfl⟩

set_option maxRecDepth 100000 in
theorem lifted (os : Os) (started : os.Started) (H : Type) (enc : TypeId × Value → H) (F : Stop.Interp) :
    ReturnsInHanded {} Tryd.checked os 4 .any ((Rows.OpenSpec.upto Rows.pointSplitsSpec).preRow enc Tryd.prog Tryd.f4 Rows.pointSplitsUptoRow.domain false Rows.pointSplitsUptoRow.laid) (((Rows.OpenSpec.upto Rows.pointSplitsSpec).at F).post enc Tryd.prog Tryd.f4 false true false false) := by
  obtain ⟨places, hx⟩ := reads os enc
  refine returnsInHanded_of_row (C := Tryd.checked) (s := Rows.OpenSpec.upto Rows.pointSplitsSpec) own started (by kernel_rfl) Tryd.func4
    (witness_row_at (enc := enc) (C := Tryd.checked) false (ptWorld os) #[.string ⟨#[]⟩, .slice none 0 0] rfl (by kernel_rfl) (by kernel_rfl) (by kernel_rfl)
      (OpenSpec.preRow_of_cond 8 hx (by kernel_rfl) (fun k hk => by cases hk; kernel_rfl) (by kernel_rfl) (pt_met os _))) ?_
  intro W base args ds gs before hval hW _ hc hZ hL hS _
  exact contract H enc W base args ds gs before hval hW (hc _ rfl) hZ hS

theorem said : Rows.PointSplitsUptoSaid :=
  OpenClaim.holds_of_cond 4 Tryd.f4 rfl rfl rfl rfl rfl rfl rfl ⟨rfl, rfl, rfl, rfl, rfl⟩ rfl rfl rfl rfl rfl (by kernel_rfl) Tryd.func4 (by kernel_rfl)
    (of_decide_eq_true (by kernel_rfl)) (by unfold Func.isWrapper; first | (rw [if_pos (by decide +kernel)]; kernel_rfl) | (rw [if_neg (by decide +kernel)]; exact ⟨rfl, rfl⟩))
    (fun os started H enc _ F => by rw [OpenClaim.pre_eq_preRow]; exact lifted os started H enc F)

theorem plain (f : FuncId) (fn : Func) (hf : Tryd.pinned.checked.prog.funcNamed "stairwell/stairwelllaw.PointSplits" = some f) (hfn : Tryd.pinned.checked.prog.funcs[f]? = some fn) :
    true = Tryd.pinned.checked.prog.looks [] ∧ ∀ (j : Nat) t, fn.params[j]? = some t → Tryd.pinned.checked.prog.wantsStandIn t = false := by
  obtain rfl : f = 4 := Option.some.inj ((show Tryd.prog.funcNamed "stairwell/stairwelllaw.PointSplits" = some 4 by kernel_rfl).symm.trans hf) |>.symm
  obtain rfl : fn = Tryd.f4 := (Option.some.inj (Tryd.func4.symm.trans hfn)).symm
  refine ⟨by kernel_rfl, fun j t ht => ?_⟩
  rw [Tryd.params4] at ht
  have hm := Array.mem_of_getElem? ht
  simp only [Array.mem_def, List.mem_cons, List.not_mem_nil, or_false] at hm
  rcases hm with rfl | rfl
  · exact (show Tryd.prog.wantsStandIn 9 = false by kernel_rfl)
  · exact (show Tryd.prog.wantsStandIn 22 = false by kernel_rfl)

theorem card : Rows.PointSplitsUptoCardSaid :=
  Claim7.holds_tied_plain_at .later [] _ _ _ _ said (fun _ h => by cases h) (by kernel_rfl) (fun _ h => by cases h) pointSplitsUpto_row_tie rfl ⟨rfl, rfl⟩ (by kernel_rfl) rfl plain (by kernel_rfl)
end Go.Proofs.YtfbddgpekbhpfabDoor.pointSplits

/- What IsStep, IsSpec, IsStatus and healthy of package stairwellref do. -/
import Derived.Test.YtaaaogiheplbmaaHd
set_option linter.unusedSimpArgs false
set_option linter.unusedVariables false
namespace Go.Proofs.Ytaaaogiheplbmaa
open Go.RowKit

set_option maxRecDepth 100000 in
theorem rhealthy_b (w : World) (g : List UInt8) : Calls Try.prog 23 #[.string ⟨g.toArray⟩] w fun e w' => e = .returned (.agg #[.string ⟨g.toArray⟩, .string ⟨g.toArray⟩, .int .i64 1, .int .i64 0, .int .i64 100, .int .i64 0]) ∧ Below w.heap.size w w' := by
  go_enter Try.func23, Try.ntmps23
  go_wp2_with fail
  obtain ⟨c0, c1, c2, c3, c4, c5, -⟩ := SBox.c (s := healthyS g) (heap_alloc_new w (.cells #[_, _, _, _, _, _] 30))
  refine bodyPost_ret (v := staV (healthyS g)) ?_ rfl ⟨rfl, bel_alloc _ _⟩
  simp only [healthyS] at c0 c1 c2 c3 c4 c5
  simp [results, Try.results23, go_sem, c0, c1, c2, c3, c4, c5, staV, healthyS]

set_option maxRecDepth 100000 in
set_option maxHeartbeats 2000000 in
theorem rstep_at (w : World) (x : Stp) : Calls Try.prog 11 #[stpV x] w fun e w' => e = .returned (.bool (stepOk x)) ∧ Below w.heap.size w w' := by
  unfold stpV
  by_cases h1 : x.w = -1
  · have e1 : (x.w == -1) = true := by simp [h1]
    have e1n : (x.w != -1) = false := by simp [h1]
    have k1 : ¬ 0 ≤ x.w := by omega
    have k2 : (decide (0 ≤ x.w)) = false := by simp; omega
    by_cases h2 : 0 ≤ x.p
    · by_cases h3 : x.p ≤ 1099511627776
      · have R : Hid (stepOk x = true) := hidI (by first | (simp [stepOk, isT, isW, *]; done) | (simp [stepOk, isT, isW, *]; omega) | (simp [stepOk, isT, isW, *]; intros; omega))
        try clear h4
        try clear h12
        try clear h13
        go_enter Try.func11, Try.ntmps11
        go_wp2_with fail
        go_ret
        exact ⟨by rw [R.out]; rfl, bel_alloc _ _⟩
      · have R : Hid (stepOk x = false) := hidI (by first | (simp [stepOk, isT, isW, *]; done) | (simp [stepOk, isT, isW, *]; omega) | (simp [stepOk, isT, isW, *]; intros; omega))
        try clear h4
        try clear h12
        try clear h13
        go_enter Try.func11, Try.ntmps11
        go_wp2_with fail
        go_ret
        exact ⟨by rw [R.out]; rfl, bel_alloc _ _⟩
    · have R : Hid (stepOk x = false) := hidI (by first | (simp [stepOk, isT, isW, *]; done) | (simp [stepOk, isT, isW, *]; omega) | (simp [stepOk, isT, isW, *]; intros; omega))
      try clear h4
      try clear h12
      try clear h13
      go_enter Try.func11, Try.ntmps11
      go_wp2_with fail
      go_ret
      exact ⟨by rw [R.out]; rfl, bel_alloc _ _⟩
  · have e1 : (x.w == -1) = false := by simp [h1]
    have e1n : (x.w != -1) = true := by simp [h1]
    by_cases h2 : 0 ≤ x.w
    · by_cases h3 : x.w ≤ 100
      · by_cases h6 : x.p = 0
        · have e2 : (x.p == 0) = true := by simp [h6]
          have e2n : (x.p != 0) = false := by simp [h6]
          have R : Hid (stepOk x = true) := hidI (by first | (simp [stepOk, isT, isW, *]; done) | (simp [stepOk, isT, isW, *]; omega) | (simp [stepOk, isT, isW, *]; intros; omega))
          try clear h4
          try clear h12
          try clear h13
          go_enter Try.func11, Try.ntmps11
          go_wp2_with fail
          go_ret
          exact ⟨by rw [R.out]; rfl, bel_alloc _ _⟩
        · have e2 : (x.p == 0) = false := by simp [h6]
          have e2n : (x.p != 0) = true := by simp [h6]
          have R : Hid (stepOk x = false) := hidI (by first | (simp [stepOk, isT, isW, *]; done) | (simp [stepOk, isT, isW, *]; omega) | (simp [stepOk, isT, isW, *]; intros; omega))
          try clear h4
          try clear h12
          try clear h13
          go_enter Try.func11, Try.ntmps11
          go_wp2_with fail
          go_ret
          exact ⟨by rw [R.out]; rfl, bel_alloc _ _⟩
      · have R : Hid (stepOk x = false) := hidI (by first | (simp [stepOk, isT, isW, *]; done) | (simp [stepOk, isT, isW, *]; omega) | (simp [stepOk, isT, isW, *]; intros; omega))
        try clear h4
        try clear h12
        try clear h13
        go_enter Try.func11, Try.ntmps11
        go_wp2_with fail
        go_ret
        exact ⟨by rw [R.out]; rfl, bel_alloc _ _⟩
    · have R : Hid (stepOk x = false) := hidI (by first | (simp [stepOk, isT, isW, *]; done) | (simp [stepOk, isT, isW, *]; omega) | (simp [stepOk, isT, isW, *]; intros; omega))
      try clear h4
      try clear h12
      try clear h13
      go_enter Try.func11, Try.ntmps11
      go_wp2_with fail
      go_ret
      exact ⟨by rw [R.out]; rfl, bel_alloc _ _⟩

set_option maxRecDepth 100000 in
set_option maxHeartbeats 2000000 in
theorem rspec_at (w : World) (g : List UInt8) (l : List Stp) (v : Value) (h : StpsAre w l v) (hg : g.length ≤ 9223372036854775807) :
    Calls Try.prog 13 #[.agg #[.string ⟨g.toArray⟩, v]] w fun e w' => e = .returned (.bool (specOk g l)) ∧ Below w.heap.size w w' := by
  obtain ⟨a, c, rfl⟩ := h.form
  have H := hidI h
  have ll := h.1
  have P0 : Hid (PBox (w.alloc (.cells #[.string ⟨g.toArray⟩, .slice a l.length c] 28)) w.heap.size g (.slice a l.length c) ∧ Below w.heap.size w (w.alloc (.cells #[.string ⟨g.toArray⟩, .slice a l.length c] 28))) := hidI ⟨heap_alloc_new w _, bel_alloc _ _⟩
  clear h
  go_enter Try.func13, Try.ntmps13
  go_wp2_with fail
  go_loopg [4, 8] l.length (fun gk _ i wr => ∃ k : Nat, k ≤ l.length ∧ Hid (gk = l.length - k) ∧ i = .int .i64 k ∧ Hid ((l.take k).all stepOk = true) ∧ Hid (PBox wr w.heap.size g (.slice a l.length c) ∧ Below w.heap.size w wr))
  case atStart => exact ⟨0, Nat.zero_le _, hidI rfl, rfl, hidI rfl, P0⟩
  case round =>
    obtain ⟨k, hk, GK, rfl, HA, P1⟩ := hrel
    obtain ⟨p0, p1⟩ := P1.out.1.c
    by_cases hlt : k < l.length
    · obtain ⟨b, off, rfl, j1, j2, k1, k2⟩ := stps_at H.out hlt
      have m1 := cell_bel P1.out.2 k1
      have m2 := cell_bel P1.out.2 k2
      have w2 : (k : Int) < (l.length : Int) := by omega
      have T1 : Hid ((l.take (k + 1)).all stepOk = stepOk l[k]) := hidI (by rw [List.take_add_one, List.getElem?_eq_getElem hlt, List.all_append, HA.out]; simp)
      have T2 : Hid (stepOk l[k] = false → l.all stepOk = false) := hidI (fun h => by rw [List.all_eq_false]; exact ⟨l[k], List.getElem_mem _, by simp [h]⟩)
      clear k1 k2
      have CALL : Hid (∀ W : World, Calls Try.prog 11 #[.agg #[.int .i64 l[k].w, .int .i64 l[k].p]] W fun e w' => e = .returned (.bool (stepOk l[k])) ∧ Below W.heap.size W w') := hidI (fun W => rstep_at W l[k])
      cases hs : stepOk l[k] with
      | true =>
        go_wp2_with (go_at_call 11; refine (CALL.out _).mono ?_; rintro e w1 ⟨rfl, hb⟩; rw [hs]; have P2 := hidI (show PBox w1 w.heap.size g (.slice (some ⟨b, off, none⟩) l.length c) ∧ Below w.heap.size w w1 from ⟨(P1.out.1.bel (bel_alloc _ _)).bel hb, bel_trans (bel_trans P1.out.2 (bel_alloc _ _)) hb⟩))
        go_roundg (l.length - (k + 1))
        case measure => rw [GK.out]; omega
        case rel => exact ⟨k + 1, hlt, hidI rfl, by go_num, hidI (by rw [T1.out, hs]), P2⟩
      | false =>
        go_wp2_with (go_at_call 11; refine (CALL.out _).mono ?_; rintro e w1 ⟨rfl, hb⟩; rw [hs])
        go_ret
        exact ⟨by rw [show specOk g l = false by rw [specOk, T2.out hs, Bool.and_false]]; rfl, bel_trans (bel_trans P1.out.2 (bel_alloc _ _)) hb⟩
    · have d1 : ¬ (k : Int) < (l.length : Int) := by omega
      have hke : k = l.length := by omega
      have RA : Hid (l.all stepOk = true) := hidI (by have := HA.out; rwa [hke, List.take_of_length_le (Nat.le_refl _)] at this)
      clear hke
      by_cases h1 : g = []
      · have e1 : g.isEmpty = true := by simp [h1]
        have R : Hid (specOk g l = false) := hidI (by simp [specOk, h1])
        clear h1
        go_wp2_with fail
        go_ret
        exact ⟨by rw [R.out]; rfl, P1.out.2⟩
      have e1 : g.isEmpty = false := by simp [h1]
      by_cases h2 : g.length ≤ 60
      · have e2 : (g.length : Int) ≤ 60 := by omega
        have R : Hid (specOk g l = decide ((l.length : Int) ≤ 8)) := hidI (by rw [specOk, RA.out, Bool.and_true]; simp [h1, h2]; omega)
        clear h1 h2
        go_wp2_with fail
        go_ret
        exact ⟨by rw [R.out]; rfl, P1.out.2⟩
      · have e2 : ¬ (g.length : Int) ≤ 60 := by omega
        have R : Hid (specOk g l = false) := hidI (by simp [specOk, h2])
        clear h1 h2
        go_wp2_with fail
        go_ret
        exact ⟨by rw [R.out]; rfl, P1.out.2⟩

set_option maxRecDepth 100000 in
set_option maxHeartbeats 4000000 in
theorem rstatus_1 (w : World) (a c : List UInt8) (st we si : Int) (h1 : a ≠ []) (h2 : c ≠ []) (e1 : a.isEmpty = false) (e2 : c.isEmpty = false) :
    Calls Try.prog 15 #[.agg #[.string ⟨a.toArray⟩, .string ⟨c.toArray⟩, .int .i64 1, .int .i64 st, .int .i64 we, .int .i64 si]] w fun e w' => e = .returned (.bool (staOk ⟨a, c, 1, st, we, si⟩)) ∧ Below w.heap.size w w' := by
  by_cases h4 : a = c
  · have e5 : (a == c) = true := by simp [h4]
    have e5n : (a != c) = false := by simp [h4]
    by_cases h5 : st < 0
    · have R : Hid (staOk ⟨a, c, 1, st, we, si⟩ = false) := hidI (by first | (simp [staOk, underOk, isT, isW, *]; done) | (simp [staOk, underOk, isT, isW, *]; omega) | (simp [staOk, underOk, isT, isW, *]; intros; omega))
      try clear h4
      try clear h12
      try clear h13
      go_enter Try.func15, Try.ntmps15
      go_wp2_with fail
      go_ret
      exact ⟨by rw [R.out]; rfl, bel_alloc _ _⟩
    · by_cases h6 : 8 < st
      · have R : Hid (staOk ⟨a, c, 1, st, we, si⟩ = false) := hidI (by first | (simp [staOk, underOk, isT, isW, *]; done) | (simp [staOk, underOk, isT, isW, *]; omega) | (simp [staOk, underOk, isT, isW, *]; intros; omega))
        try clear h4
        try clear h12
        try clear h13
        go_enter Try.func15, Try.ntmps15
        go_wp2_with fail
        go_ret
        exact ⟨by rw [R.out]; rfl, bel_alloc _ _⟩
      · by_cases h7 : we < 0
        · have R : Hid (staOk ⟨a, c, 1, st, we, si⟩ = false) := hidI (by first | (simp [staOk, underOk, isT, isW, *]; done) | (simp [staOk, underOk, isT, isW, *]; omega) | (simp [staOk, underOk, isT, isW, *]; intros; omega))
          try clear h4
          try clear h12
          try clear h13
          go_enter Try.func15, Try.ntmps15
          go_wp2_with fail
          go_ret
          exact ⟨by rw [R.out]; rfl, bel_alloc _ _⟩
        · by_cases h8 : 100 < we
          · have R : Hid (staOk ⟨a, c, 1, st, we, si⟩ = false) := hidI (by first | (simp [staOk, underOk, isT, isW, *]; done) | (simp [staOk, underOk, isT, isW, *]; omega) | (simp [staOk, underOk, isT, isW, *]; intros; omega))
            try clear h4
            try clear h12
            try clear h13
            go_enter Try.func15, Try.ntmps15
            go_wp2_with fail
            go_ret
            exact ⟨by rw [R.out]; rfl, bel_alloc _ _⟩
          · by_cases h9 : si < 0
            · have R : Hid (staOk ⟨a, c, 1, st, we, si⟩ = false) := hidI (by first | (simp [staOk, underOk, isT, isW, *]; done) | (simp [staOk, underOk, isT, isW, *]; omega) | (simp [staOk, underOk, isT, isW, *]; intros; omega))
              try clear h4
              try clear h12
              try clear h13
              go_enter Try.func15, Try.ntmps15
              go_wp2_with fail
              go_ret
              exact ⟨by rw [R.out]; rfl, bel_alloc _ _⟩
            · by_cases h10 : 1099511627776 < si
              · have R : Hid (staOk ⟨a, c, 1, st, we, si⟩ = false) := hidI (by first | (simp [staOk, underOk, isT, isW, *]; done) | (simp [staOk, underOk, isT, isW, *]; omega) | (simp [staOk, underOk, isT, isW, *]; intros; omega))
                try clear h4
                try clear h12
                try clear h13
                go_enter Try.func15, Try.ntmps15
                go_wp2_with fail
                go_ret
                exact ⟨by rw [R.out]; rfl, bel_alloc _ _⟩
              · by_cases h11 : 0 < si
                · have R : Hid (staOk ⟨a, c, 1, st, we, si⟩ = false) := hidI (by first | (simp [staOk, underOk, isT, isW, *]; done) | (simp [staOk, underOk, isT, isW, *]; omega) | (simp [staOk, underOk, isT, isW, *]; intros; omega))
                  try clear h4
                  try clear h12
                  try clear h13
                  go_enter Try.func15, Try.ntmps15
                  go_wp2_with fail
                  go_ret
                  exact ⟨by rw [R.out]; rfl, bel_alloc _ _⟩
                · by_cases h12 : st = 0
                  · have f1 : (st == 0) = true := by simp [h12]
                    have f1n : (st != 0) = false := by simp [h12]
                    by_cases h13 : we = 100
                    · have f2 : (we == 100) = true := by simp [h13]
                      have f2n : (we != 100) = false := by simp [h13]
                      have R : Hid (staOk ⟨a, c, 1, st, we, si⟩ = true) := hidI (by first | (simp [staOk, underOk, isT, isW, *]; done) | (simp [staOk, underOk, isT, isW, *]; omega) | (simp [staOk, underOk, isT, isW, *]; intros; omega))
                      try clear h4
                      try clear h12
                      try clear h13
                      go_enter Try.func15, Try.ntmps15
                      go_wp2_with fail
                      go_ret
                      exact ⟨by rw [R.out]; rfl, bel_alloc _ _⟩
                    · have f2 : (we == 100) = false := by simp [h13]
                      have f2n : (we != 100) = true := by simp [h13]
                      have R : Hid (staOk ⟨a, c, 1, st, we, si⟩ = false) := hidI (by first | (simp [staOk, underOk, isT, isW, *]; done) | (simp [staOk, underOk, isT, isW, *]; omega) | (simp [staOk, underOk, isT, isW, *]; intros; omega))
                      try clear h4
                      try clear h12
                      try clear h13
                      go_enter Try.func15, Try.ntmps15
                      go_wp2_with fail
                      go_ret
                      exact ⟨by rw [R.out]; rfl, bel_alloc _ _⟩
                  · have f1 : (st == 0) = false := by simp [h12]
                    have f1n : (st != 0) = true := by simp [h12]
                    have R : Hid (staOk ⟨a, c, 1, st, we, si⟩ = false) := hidI (by first | (simp [staOk, underOk, isT, isW, *]; done) | (simp [staOk, underOk, isT, isW, *]; omega) | (simp [staOk, underOk, isT, isW, *]; intros; omega))
                    try clear h4
                    try clear h12
                    try clear h13
                    go_enter Try.func15, Try.ntmps15
                    go_wp2_with fail
                    go_ret
                    exact ⟨by rw [R.out]; rfl, bel_alloc _ _⟩
  · have e5 : (a == c) = false := by simp [h4]
    have e5n : (a != c) = true := by simp [h4]
    have h4b : ¬ c = a := fun h => h4 h.symm
    have R : Hid (staOk ⟨a, c, 1, st, we, si⟩ = false) := hidI (by first | (simp [staOk, underOk, isT, isW, *]; done) | (simp [staOk, underOk, isT, isW, *]; omega) | (simp [staOk, underOk, isT, isW, *]; intros; omega))
    try clear h4
    try clear h12
    try clear h13
    go_enter Try.func15, Try.ntmps15
    go_wp2_with fail
    go_ret
    exact ⟨by rw [R.out]; rfl, bel_alloc _ _⟩

set_option maxRecDepth 100000 in
set_option maxHeartbeats 4000000 in
theorem rstatus_2 (w : World) (a c : List UInt8) (st we si : Int) (h1 : a ≠ []) (h2 : c ≠ []) (e1 : a.isEmpty = false) (e2 : c.isEmpty = false) :
    Calls Try.prog 15 #[.agg #[.string ⟨a.toArray⟩, .string ⟨c.toArray⟩, .int .i64 2, .int .i64 st, .int .i64 we, .int .i64 si]] w fun e w' => e = .returned (.bool (staOk ⟨a, c, 2, st, we, si⟩)) ∧ Below w.heap.size w w' := by
  by_cases h4 : a = c
  · have e5 : (a == c) = true := by simp [h4]
    have e5n : (a != c) = false := by simp [h4]
    have R : Hid (staOk ⟨a, c, 2, st, we, si⟩ = false) := hidI (by first | (simp [staOk, underOk, isT, isW, *]; done) | (simp [staOk, underOk, isT, isW, *]; omega) | (simp [staOk, underOk, isT, isW, *]; intros; omega))
    try clear h4
    try clear h12
    try clear h13
    go_enter Try.func15, Try.ntmps15
    go_wp2_with fail
    go_ret
    exact ⟨by rw [R.out]; rfl, bel_alloc _ _⟩
  · have e5 : (a == c) = false := by simp [h4]
    have e5n : (a != c) = true := by simp [h4]
    have h4b : ¬ c = a := fun h => h4 h.symm
    by_cases h5 : st < 0
    · have R : Hid (staOk ⟨a, c, 2, st, we, si⟩ = false) := hidI (by first | (simp [staOk, underOk, isT, isW, *]; done) | (simp [staOk, underOk, isT, isW, *]; omega) | (simp [staOk, underOk, isT, isW, *]; intros; omega))
      try clear h4
      try clear h12
      try clear h13
      go_enter Try.func15, Try.ntmps15
      go_wp2_with fail
      go_ret
      exact ⟨by rw [R.out]; rfl, bel_alloc _ _⟩
    · by_cases h6 : 8 < st
      · have R : Hid (staOk ⟨a, c, 2, st, we, si⟩ = false) := hidI (by first | (simp [staOk, underOk, isT, isW, *]; done) | (simp [staOk, underOk, isT, isW, *]; omega) | (simp [staOk, underOk, isT, isW, *]; intros; omega))
        try clear h4
        try clear h12
        try clear h13
        go_enter Try.func15, Try.ntmps15
        go_wp2_with fail
        go_ret
        exact ⟨by rw [R.out]; rfl, bel_alloc _ _⟩
      · by_cases h7 : we < 0
        · have R : Hid (staOk ⟨a, c, 2, st, we, si⟩ = false) := hidI (by first | (simp [staOk, underOk, isT, isW, *]; done) | (simp [staOk, underOk, isT, isW, *]; omega) | (simp [staOk, underOk, isT, isW, *]; intros; omega))
          try clear h4
          try clear h12
          try clear h13
          go_enter Try.func15, Try.ntmps15
          go_wp2_with fail
          go_ret
          exact ⟨by rw [R.out]; rfl, bel_alloc _ _⟩
        · by_cases h8 : 100 < we
          · have R : Hid (staOk ⟨a, c, 2, st, we, si⟩ = false) := hidI (by first | (simp [staOk, underOk, isT, isW, *]; done) | (simp [staOk, underOk, isT, isW, *]; omega) | (simp [staOk, underOk, isT, isW, *]; intros; omega))
            try clear h4
            try clear h12
            try clear h13
            go_enter Try.func15, Try.ntmps15
            go_wp2_with fail
            go_ret
            exact ⟨by rw [R.out]; rfl, bel_alloc _ _⟩
          · by_cases h9 : si < 0
            · have R : Hid (staOk ⟨a, c, 2, st, we, si⟩ = false) := hidI (by first | (simp [staOk, underOk, isT, isW, *]; done) | (simp [staOk, underOk, isT, isW, *]; omega) | (simp [staOk, underOk, isT, isW, *]; intros; omega))
              try clear h4
              try clear h12
              try clear h13
              go_enter Try.func15, Try.ntmps15
              go_wp2_with fail
              go_ret
              exact ⟨by rw [R.out]; rfl, bel_alloc _ _⟩
            · by_cases h10 : 1099511627776 < si
              · have R : Hid (staOk ⟨a, c, 2, st, we, si⟩ = false) := hidI (by first | (simp [staOk, underOk, isT, isW, *]; done) | (simp [staOk, underOk, isT, isW, *]; omega) | (simp [staOk, underOk, isT, isW, *]; intros; omega))
                try clear h4
                try clear h12
                try clear h13
                go_enter Try.func15, Try.ntmps15
                go_wp2_with fail
                go_ret
                exact ⟨by rw [R.out]; rfl, bel_alloc _ _⟩
              · by_cases h11 : 0 < si
                · have R : Hid (staOk ⟨a, c, 2, st, we, si⟩ = false) := hidI (by first | (simp [staOk, underOk, isT, isW, *]; done) | (simp [staOk, underOk, isT, isW, *]; omega) | (simp [staOk, underOk, isT, isW, *]; intros; omega))
                  try clear h4
                  try clear h12
                  try clear h13
                  go_enter Try.func15, Try.ntmps15
                  go_wp2_with fail
                  go_ret
                  exact ⟨by rw [R.out]; rfl, bel_alloc _ _⟩
                · have R : Hid (staOk ⟨a, c, 2, st, we, si⟩ = true) := hidI (by first | (simp [staOk, underOk, isT, isW, *]; done) | (simp [staOk, underOk, isT, isW, *]; omega) | (simp [staOk, underOk, isT, isW, *]; intros; omega))
                  try clear h4
                  try clear h12
                  try clear h13
                  go_enter Try.func15, Try.ntmps15
                  go_wp2_with fail
                  go_ret
                  exact ⟨by rw [R.out]; rfl, bel_alloc _ _⟩

set_option maxRecDepth 100000 in
set_option maxHeartbeats 4000000 in
theorem rstatus_3 (w : World) (a c : List UInt8) (st we si : Int) (h1 : a ≠ []) (h2 : c ≠ []) (e1 : a.isEmpty = false) (e2 : c.isEmpty = false) :
    Calls Try.prog 15 #[.agg #[.string ⟨a.toArray⟩, .string ⟨c.toArray⟩, .int .i64 3, .int .i64 st, .int .i64 we, .int .i64 si]] w fun e w' => e = .returned (.bool (staOk ⟨a, c, 3, st, we, si⟩)) ∧ Below w.heap.size w w' := by
  by_cases h4 : a = c
  · have e5 : (a == c) = true := by simp [h4]
    have e5n : (a != c) = false := by simp [h4]
    have R : Hid (staOk ⟨a, c, 3, st, we, si⟩ = false) := hidI (by first | (simp [staOk, underOk, isT, isW, *]; done) | (simp [staOk, underOk, isT, isW, *]; omega) | (simp [staOk, underOk, isT, isW, *]; intros; omega))
    try clear h4
    try clear h12
    try clear h13
    go_enter Try.func15, Try.ntmps15
    go_wp2_with fail
    go_ret
    exact ⟨by rw [R.out]; rfl, bel_alloc _ _⟩
  · have e5 : (a == c) = false := by simp [h4]
    have e5n : (a != c) = true := by simp [h4]
    have h4b : ¬ c = a := fun h => h4 h.symm
    by_cases h5 : st < 0
    · have R : Hid (staOk ⟨a, c, 3, st, we, si⟩ = false) := hidI (by first | (simp [staOk, underOk, isT, isW, *]; done) | (simp [staOk, underOk, isT, isW, *]; omega) | (simp [staOk, underOk, isT, isW, *]; intros; omega))
      try clear h4
      try clear h12
      try clear h13
      go_enter Try.func15, Try.ntmps15
      go_wp2_with fail
      go_ret
      exact ⟨by rw [R.out]; rfl, bel_alloc _ _⟩
    · by_cases h6 : 8 < st
      · have R : Hid (staOk ⟨a, c, 3, st, we, si⟩ = false) := hidI (by first | (simp [staOk, underOk, isT, isW, *]; done) | (simp [staOk, underOk, isT, isW, *]; omega) | (simp [staOk, underOk, isT, isW, *]; intros; omega))
        try clear h4
        try clear h12
        try clear h13
        go_enter Try.func15, Try.ntmps15
        go_wp2_with fail
        go_ret
        exact ⟨by rw [R.out]; rfl, bel_alloc _ _⟩
      · by_cases h7 : we < 0
        · have R : Hid (staOk ⟨a, c, 3, st, we, si⟩ = false) := hidI (by first | (simp [staOk, underOk, isT, isW, *]; done) | (simp [staOk, underOk, isT, isW, *]; omega) | (simp [staOk, underOk, isT, isW, *]; intros; omega))
          try clear h4
          try clear h12
          try clear h13
          go_enter Try.func15, Try.ntmps15
          go_wp2_with fail
          go_ret
          exact ⟨by rw [R.out]; rfl, bel_alloc _ _⟩
        · by_cases h8 : 100 < we
          · have R : Hid (staOk ⟨a, c, 3, st, we, si⟩ = false) := hidI (by first | (simp [staOk, underOk, isT, isW, *]; done) | (simp [staOk, underOk, isT, isW, *]; omega) | (simp [staOk, underOk, isT, isW, *]; intros; omega))
            try clear h4
            try clear h12
            try clear h13
            go_enter Try.func15, Try.ntmps15
            go_wp2_with fail
            go_ret
            exact ⟨by rw [R.out]; rfl, bel_alloc _ _⟩
          · by_cases h9 : si < 0
            · have R : Hid (staOk ⟨a, c, 3, st, we, si⟩ = false) := hidI (by first | (simp [staOk, underOk, isT, isW, *]; done) | (simp [staOk, underOk, isT, isW, *]; omega) | (simp [staOk, underOk, isT, isW, *]; intros; omega))
              try clear h4
              try clear h12
              try clear h13
              go_enter Try.func15, Try.ntmps15
              go_wp2_with fail
              go_ret
              exact ⟨by rw [R.out]; rfl, bel_alloc _ _⟩
            · by_cases h10 : 1099511627776 < si
              · have R : Hid (staOk ⟨a, c, 3, st, we, si⟩ = false) := hidI (by first | (simp [staOk, underOk, isT, isW, *]; done) | (simp [staOk, underOk, isT, isW, *]; omega) | (simp [staOk, underOk, isT, isW, *]; intros; omega))
                try clear h4
                try clear h12
                try clear h13
                go_enter Try.func15, Try.ntmps15
                go_wp2_with fail
                go_ret
                exact ⟨by rw [R.out]; rfl, bel_alloc _ _⟩
              · by_cases h11 : 0 < si
                · have R : Hid (staOk ⟨a, c, 3, st, we, si⟩ = true) := hidI (by first | (simp [staOk, underOk, isT, isW, *]; done) | (simp [staOk, underOk, isT, isW, *]; omega) | (simp [staOk, underOk, isT, isW, *]; intros; omega))
                  try clear h4
                  try clear h12
                  try clear h13
                  go_enter Try.func15, Try.ntmps15
                  go_wp2_with fail
                  go_ret
                  exact ⟨by rw [R.out]; rfl, bel_alloc _ _⟩
                · have R : Hid (staOk ⟨a, c, 3, st, we, si⟩ = true) := hidI (by first | (simp [staOk, underOk, isT, isW, *]; done) | (simp [staOk, underOk, isT, isW, *]; omega) | (simp [staOk, underOk, isT, isW, *]; intros; omega))
                  try clear h4
                  try clear h12
                  try clear h13
                  go_enter Try.func15, Try.ntmps15
                  go_wp2_with fail
                  go_ret
                  exact ⟨by rw [R.out]; rfl, bel_alloc _ _⟩

set_option maxRecDepth 100000 in
set_option maxHeartbeats 4000000 in
theorem rstatus_4 (w : World) (a c : List UInt8) (st we si : Int) (h1 : a ≠ []) (h2 : c ≠ []) (e1 : a.isEmpty = false) (e2 : c.isEmpty = false) :
    Calls Try.prog 15 #[.agg #[.string ⟨a.toArray⟩, .string ⟨c.toArray⟩, .int .i64 4, .int .i64 st, .int .i64 we, .int .i64 si]] w fun e w' => e = .returned (.bool (staOk ⟨a, c, 4, st, we, si⟩)) ∧ Below w.heap.size w w' := by
  by_cases h4 : a = c
  · have e5 : (a == c) = true := by simp [h4]
    have e5n : (a != c) = false := by simp [h4]
    have R : Hid (staOk ⟨a, c, 4, st, we, si⟩ = false) := hidI (by first | (simp [staOk, underOk, isT, isW, *]; done) | (simp [staOk, underOk, isT, isW, *]; omega) | (simp [staOk, underOk, isT, isW, *]; intros; omega))
    try clear h4
    try clear h12
    try clear h13
    go_enter Try.func15, Try.ntmps15
    go_wp2_with fail
    go_ret
    exact ⟨by rw [R.out]; rfl, bel_alloc _ _⟩
  · have e5 : (a == c) = false := by simp [h4]
    have e5n : (a != c) = true := by simp [h4]
    have h4b : ¬ c = a := fun h => h4 h.symm
    by_cases h5 : st < 0
    · have R : Hid (staOk ⟨a, c, 4, st, we, si⟩ = false) := hidI (by first | (simp [staOk, underOk, isT, isW, *]; done) | (simp [staOk, underOk, isT, isW, *]; omega) | (simp [staOk, underOk, isT, isW, *]; intros; omega))
      try clear h4
      try clear h12
      try clear h13
      go_enter Try.func15, Try.ntmps15
      go_wp2_with fail
      go_ret
      exact ⟨by rw [R.out]; rfl, bel_alloc _ _⟩
    · by_cases h6 : 8 < st
      · have R : Hid (staOk ⟨a, c, 4, st, we, si⟩ = false) := hidI (by first | (simp [staOk, underOk, isT, isW, *]; done) | (simp [staOk, underOk, isT, isW, *]; omega) | (simp [staOk, underOk, isT, isW, *]; intros; omega))
        try clear h4
        try clear h12
        try clear h13
        go_enter Try.func15, Try.ntmps15
        go_wp2_with fail
        go_ret
        exact ⟨by rw [R.out]; rfl, bel_alloc _ _⟩
      · by_cases h7 : we < 0
        · have R : Hid (staOk ⟨a, c, 4, st, we, si⟩ = false) := hidI (by first | (simp [staOk, underOk, isT, isW, *]; done) | (simp [staOk, underOk, isT, isW, *]; omega) | (simp [staOk, underOk, isT, isW, *]; intros; omega))
          try clear h4
          try clear h12
          try clear h13
          go_enter Try.func15, Try.ntmps15
          go_wp2_with fail
          go_ret
          exact ⟨by rw [R.out]; rfl, bel_alloc _ _⟩
        · by_cases h8 : 100 < we
          · have R : Hid (staOk ⟨a, c, 4, st, we, si⟩ = false) := hidI (by first | (simp [staOk, underOk, isT, isW, *]; done) | (simp [staOk, underOk, isT, isW, *]; omega) | (simp [staOk, underOk, isT, isW, *]; intros; omega))
            try clear h4
            try clear h12
            try clear h13
            go_enter Try.func15, Try.ntmps15
            go_wp2_with fail
            go_ret
            exact ⟨by rw [R.out]; rfl, bel_alloc _ _⟩
          · by_cases h9 : si < 0
            · have R : Hid (staOk ⟨a, c, 4, st, we, si⟩ = false) := hidI (by first | (simp [staOk, underOk, isT, isW, *]; done) | (simp [staOk, underOk, isT, isW, *]; omega) | (simp [staOk, underOk, isT, isW, *]; intros; omega))
              try clear h4
              try clear h12
              try clear h13
              go_enter Try.func15, Try.ntmps15
              go_wp2_with fail
              go_ret
              exact ⟨by rw [R.out]; rfl, bel_alloc _ _⟩
            · by_cases h10 : 1099511627776 < si
              · have R : Hid (staOk ⟨a, c, 4, st, we, si⟩ = false) := hidI (by first | (simp [staOk, underOk, isT, isW, *]; done) | (simp [staOk, underOk, isT, isW, *]; omega) | (simp [staOk, underOk, isT, isW, *]; intros; omega))
                try clear h4
                try clear h12
                try clear h13
                go_enter Try.func15, Try.ntmps15
                go_wp2_with fail
                go_ret
                exact ⟨by rw [R.out]; rfl, bel_alloc _ _⟩
              · by_cases h11 : 0 < si
                · have R : Hid (staOk ⟨a, c, 4, st, we, si⟩ = false) := hidI (by first | (simp [staOk, underOk, isT, isW, *]; done) | (simp [staOk, underOk, isT, isW, *]; omega) | (simp [staOk, underOk, isT, isW, *]; intros; omega))
                  try clear h4
                  try clear h12
                  try clear h13
                  go_enter Try.func15, Try.ntmps15
                  go_wp2_with fail
                  go_ret
                  exact ⟨by rw [R.out]; rfl, bel_alloc _ _⟩
                · by_cases h12 : st = 0
                  · have f1 : (st == 0) = true := by simp [h12]
                    have f1n : (st != 0) = false := by simp [h12]
                    by_cases h13 : we = 0
                    · have f2 : (we == 0) = true := by simp [h13]
                      have f2n : (we != 0) = false := by simp [h13]
                      have R : Hid (staOk ⟨a, c, 4, st, we, si⟩ = true) := hidI (by first | (simp [staOk, underOk, isT, isW, *]; done) | (simp [staOk, underOk, isT, isW, *]; omega) | (simp [staOk, underOk, isT, isW, *]; intros; omega))
                      try clear h4
                      try clear h12
                      try clear h13
                      go_enter Try.func15, Try.ntmps15
                      go_wp2_with fail
                      go_ret
                      exact ⟨by rw [R.out]; rfl, bel_alloc _ _⟩
                    · have f2 : (we == 0) = false := by simp [h13]
                      have f2n : (we != 0) = true := by simp [h13]
                      have R : Hid (staOk ⟨a, c, 4, st, we, si⟩ = false) := hidI (by first | (simp [staOk, underOk, isT, isW, *]; done) | (simp [staOk, underOk, isT, isW, *]; omega) | (simp [staOk, underOk, isT, isW, *]; intros; omega))
                      try clear h4
                      try clear h12
                      try clear h13
                      go_enter Try.func15, Try.ntmps15
                      go_wp2_with fail
                      go_ret
                      exact ⟨by rw [R.out]; rfl, bel_alloc _ _⟩
                  · have f1 : (st == 0) = false := by simp [h12]
                    have f1n : (st != 0) = true := by simp [h12]
                    have R : Hid (staOk ⟨a, c, 4, st, we, si⟩ = false) := hidI (by first | (simp [staOk, underOk, isT, isW, *]; done) | (simp [staOk, underOk, isT, isW, *]; omega) | (simp [staOk, underOk, isT, isW, *]; intros; omega))
                    try clear h4
                    try clear h12
                    try clear h13
                    go_enter Try.func15, Try.ntmps15
                    go_wp2_with fail
                    go_ret
                    exact ⟨by rw [R.out]; rfl, bel_alloc _ _⟩

set_option maxRecDepth 100000 in
set_option maxHeartbeats 4000000 in
theorem rstatus_at (w : World) (s : Sta) : Calls Try.prog 15 #[staV s] w fun e w' => e = .returned (.bool (staOk s)) ∧ Below w.heap.size w w' := by
  obtain ⟨a, c, ph, st, we, si⟩ := s
  simp only [staV]
  by_cases p1 : ph < 1
  · have q1 : ph ≠ 1 := by omega
    have q2 : ph ≠ 2 := by omega
    have q3 : ph ≠ 3 := by omega
    have q4 : ph ≠ 4 := by omega
    have R : Hid (staOk ⟨a, c, ph, st, we, si⟩ = false) := hidI (by first | (simp [staOk, underOk, isT, isW, *]; done) | (simp [staOk, underOk, isT, isW, *]; omega) | (simp [staOk, underOk, isT, isW, *]; intros; omega))
    try clear h4
    try clear h12
    try clear h13
    go_enter Try.func15, Try.ntmps15
    go_wp2_with fail
    go_ret
    exact ⟨by rw [R.out]; rfl, bel_alloc _ _⟩
  by_cases p2 : 4 < ph
  · have q1 : ph ≠ 1 := by omega
    have q2 : ph ≠ 2 := by omega
    have q3 : ph ≠ 3 := by omega
    have q4 : ph ≠ 4 := by omega
    have R : Hid (staOk ⟨a, c, ph, st, we, si⟩ = false) := hidI (by first | (simp [staOk, underOk, isT, isW, *]; done) | (simp [staOk, underOk, isT, isW, *]; omega) | (simp [staOk, underOk, isT, isW, *]; intros; omega))
    try clear h4
    try clear h12
    try clear h13
    go_enter Try.func15, Try.ntmps15
    go_wp2_with fail
    go_ret
    exact ⟨by rw [R.out]; rfl, bel_alloc _ _⟩
  by_cases h1 : a = []
  · have e1 : a.isEmpty = true := by simp [h1]
    have R : Hid (staOk ⟨a, c, ph, st, we, si⟩ = false) := hidI (by simp [staOk, h1])
    clear h1
    try clear h4
    try clear h12
    try clear h13
    go_enter Try.func15, Try.ntmps15
    go_wp2_with fail
    go_ret
    exact ⟨by rw [R.out]; rfl, bel_alloc _ _⟩
  have e1 : a.isEmpty = false := by simp [h1]
  by_cases h2 : c = []
  · have e2 : c.isEmpty = true := by simp [h2]
    have R : Hid (staOk ⟨a, c, ph, st, we, si⟩ = false) := hidI (by simp [staOk, h2])
    clear h1 h2
    try clear h4
    try clear h12
    try clear h13
    go_enter Try.func15, Try.ntmps15
    go_wp2_with fail
    go_ret
    exact ⟨by rw [R.out]; rfl, bel_alloc _ _⟩
  have e2 : c.isEmpty = false := by simp [h2]
  have hp : ph = 1 ∨ ph = 2 ∨ ph = 3 ∨ ph = 4 := by omega
  rcases hp with rfl | rfl | rfl | rfl
  · exact rstatus_1 w a c st we si h1 h2 e1 e2
  · exact rstatus_2 w a c st we si h1 h2 e1 e2
  · exact rstatus_3 w a c st we si h1 h2 e1 e2
  · exact rstatus_4 w a c st we si h1 h2 e1 e2
end Go.Proofs.Ytaaaogiheplbmaa

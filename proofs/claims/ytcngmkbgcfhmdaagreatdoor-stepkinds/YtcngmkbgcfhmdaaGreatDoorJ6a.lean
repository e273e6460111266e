/- What the helpers of the statements over frames return: SameFrames, SameState, SpoilFrames, SpoilState, CopyInts, LendInts, KeptInts. What the helpers of the statements over frames do: SpoilFrames, SpoilState, CopyInts, LendInts, KeptInts. Package frame's small questions: isNumber, areNumbers, isInFuel, isOutcome. -/
import Derived.Test.YtcngmkbgcfhmdaaGreatDoorMemFr
import Derived.Test.YtcngmkbgcfhmdaaGreatDoorLawInts
import Derived.Test.YtcngmkbgcfhmdaaGreatDoorRefWalk
import Derived.Test.YtcngmkbgcfhmdaaGreatDoorDo
namespace Go.Proofs.YtcngmkbgcfhmdaaGreatDoor
open Go.RowKit
set_option linter.unusedVariables false

set_option maxRecDepth 100000 in
set_option maxHeartbeats 4000000 in
theorem sameFrames_any (a b : Option Addr) (n c m d : Nat) (l k : List Fr) (w : World) (h1 : Frs w a n c l) (h2 : Frs w b m d k) :
    Calls Tryz.prog 32 #[.slice a n c, .slice b m d] w fun e w' => e = .returned (.bool (decide (l = k))) ∧ Below w.heap.size w w' := by
  have hr := h1.room
  have hc := h1.cap
  have hd := h2.cap
  have L1 := hid h1.len
  have L2 := hid h2.len
  by_cases hnm : n = m
  · subst hnm
    go_enter Tryz.func32, Tryz.ntmps32
    go_wp2
    go_loopw [5] (fun i wr => ∃ q : Nat, q ≤ n ∧ i = .int .i64 q ∧ l.take q = k.take q ∧ Below w.heap.size w wr) (fun i _ => n - (intOf i).toNat)
    case atStart => exact ⟨0, Nat.zero_le _, rfl, rfl, Below.refl _ _⟩
    case round =>
      obtain ⟨q, hq, rfl, ht, hb⟩ := hrel
      have HT := hid ht
      clear ht
      by_cases hlt : q < n
      · obtain ⟨b1, o1, x1, y1, la1, ln1, lc1, ll1, sa1, sn1, sc1, sl1, ha1, e1, c10, c11, c12, c13, i1, j1⟩ := (h1.kept hb).at q hlt
        obtain ⟨b2, o2, x2, y2, la2, ln2, lc2, ll2, sa2, sn2, sc2, sl2, ha2, e2, c20, c21, c22, c23, i2, j2⟩ := (h2.kept hb).at q hlt
        subst ha1
        subst ha2
        have g10 := cell_regrown c10
        have g11 := cell_regrown c11
        have g12 := cell_regrown c12
        have g13 := cell_regrown c13
        have g20 := cell_regrown c20
        have g21 := cell_regrown c21
        have g22 := cell_regrown c22
        have g23 := cell_regrown c23
        have I := hid (And.intro (And.intro i1 i2) (And.intro j1 j2))
        have E := hid (And.intro e1 e2)
        have NE : Hid (¬ (x1, y1, ll1, sl1) = (x2, y2, ll2, sl2) → decide (l = k) = false) := hid (fun h => decide_eq_false (ne_at (q := q) (d := noFr) (by rw [e1, e2]; exact h)))
        clear c10 c11 c12 c13 c20 c21 c22 c23 i1 i2 j1 j2 e1 e2 h1 h2
        by_cases f1 : x1 = x2
        rotate_left
        · have f1' : (x1 != x2) = true := by simpa using f1
          have N := hid (NE.out (by simp [f1]))
          clear f1
          go_wp2_with fail
          refine wp_region_quiet_below (by kernel_rfl) (by kernel_rfl) ?_
          repeat (go_big_quiet_step (fail))
          refine wpQuiet_nil ?_
          intro _ hw'
          obtain ⟨⟨dq, osq⟩, hw''⟩ := hw'
          subst hw''
          go_wp2_with fail
          go_ret
          exact ⟨ret_bool N.out.symm, kt hb (below_regrown _ _ _)⟩
        subst f1
        by_cases f2 : y1 = y2
        rotate_left
        · have f2' : (y1 != y2) = true := by simpa using f2
          have N := hid (NE.out (by simp [f2]))
          clear f2
          go_wp2_with fail
          refine wp_region_quiet_below (by kernel_rfl) (by kernel_rfl) ?_
          repeat (go_big_quiet_step (fail))
          refine wpQuiet_nil ?_
          intro _ hw'
          obtain ⟨⟨dq, osq⟩, hw''⟩ := hw'
          subst hw''
          go_wp2_with fail
          go_ret
          exact ⟨ret_bool N.out.symm, kt hb (below_regrown _ _ _)⟩
        subst f2
        by_cases f3 : ll1 = ll2
        rotate_left
        · have f3' : decide (ll1 = ll2) = false := decide_eq_false f3
          have N := hid (NE.out (by simp [f3]))
          clear f3
          go_wp2_with fail
          refine wp_region_quiet_below (by kernel_rfl) (by kernel_rfl) ?_
          repeat (go_big_quiet_step (first | (go_at_call 16; exact Calls.regrown_of (sameInts_any _ _ _ _ _ _ ll1 ll2 _ (I.out.1.1.kept (below_regrown _ _ _)) (I.out.1.2.kept (below_regrown _ _ _))))))
          refine wpQuiet_nil ?_
          intro _ hw'
          obtain ⟨⟨dq, osq⟩, hw''⟩ := hw'
          subst hw''
          go_wp2_with fail
          go_ret
          exact ⟨ret_bool N.out.symm, kt hb (below_regrown _ _ _)⟩
        have f3' : decide (ll1 = ll2) = true := decide_eq_true f3
        have F3 := hid f3
        clear f3
        by_cases f4 : sl1 = sl2
        · have f4' : decide (sl1 = sl2) = true := decide_eq_true f4
          have F4 := hid f4
          clear f4
          go_wp2_with fail
          refine wp_region_quiet_below (by kernel_rfl) (by kernel_rfl) ?_
          repeat (go_big_quiet_step (first | (go_at_call 16; first | exact Calls.regrown_of (sameInts_any _ _ _ _ _ _ ll1 ll2 _ (I.out.1.1.kept (below_regrown _ _ _)) (I.out.1.2.kept (below_regrown _ _ _))) | exact Calls.regrown_of (sameInts_any _ _ _ _ _ _ sl1 sl2 _ (I.out.2.1.kept (below_regrown _ _ _)) (I.out.2.2.kept (below_regrown _ _ _))))))
          refine wpQuiet_nil ?_
          intro _ hw'
          obtain ⟨⟨dq, osq⟩, hw''⟩ := hw'
          subst hw''
          go_wp2_with fail
          go_roundw
          case rel => exact ⟨q + 1, by omega, by go_num, take_eq_step (d := noFr) (by have := L1.out; omega) (by have := L2.out; omega) HT.out (by rw [E.out.1, E.out.2, F3.out, F4.out]), kt hb (below_regrown _ _ _)⟩
          case measure => simp [intOf]; omega
        · have f4' : decide (sl1 = sl2) = false := decide_eq_false f4
          have N := hid (NE.out (by simp [f4]))
          clear f4
          go_wp2_with fail
          refine wp_region_quiet_below (by kernel_rfl) (by kernel_rfl) ?_
          repeat (go_big_quiet_step (first | (go_at_call 16; first | exact Calls.regrown_of (sameInts_any _ _ _ _ _ _ ll1 ll2 _ (I.out.1.1.kept (below_regrown _ _ _)) (I.out.1.2.kept (below_regrown _ _ _))) | exact Calls.regrown_of (sameInts_any _ _ _ _ _ _ sl1 sl2 _ (I.out.2.1.kept (below_regrown _ _ _)) (I.out.2.2.kept (below_regrown _ _ _))))))
          refine wpQuiet_nil ?_
          intro _ hw'
          obtain ⟨⟨dq, osq⟩, hw''⟩ := hw'
          subst hw''
          go_wp2_with fail
          go_ret
          exact ⟨ret_bool N.out.symm, kt hb (below_regrown _ _ _)⟩
      · go_wp2
        go_ret
        exact ⟨ret_bool (decide_eq_true (by have h := HT.out; rwa [List.take_of_length_le (by have := L1.out; omega), List.take_of_length_le (by have := L2.out; omega)] at h)).symm, hb⟩
  · have hne : ((n : Int) == (m : Int)) = false := by simp; omega
    go_enter Tryz.func32, Tryz.ntmps32
    go_wp2
    go_ret
    exact ⟨ret_bool (decide_eq_false (fun h => hnm (by rw [L1.out, L2.out, h]))).symm, by go_grown⟩

def sameS (s t : St) : Bool := decide (s.2.1 = t.2.1) && (decide (s.2.2.2.1 = t.2.2.2.1) && (decide (s.2.2.2.2 = t.2.2.2.2) && (decide (s.2.2.1 = t.2.2.1) && decide (s.1 = t.1))))
theorem sameS_self (s : St) : sameS s s = true := by simp [sameS]

set_option maxRecDepth 100000 in
set_option maxHeartbeats 4000000 in
theorem sameState_any (fa : Option Addr) (fn fc : Nat) (fs : List Fr) (fu : Int) (oa : Option Addr) (on oc : Nat) (os : List Int) (dn vl : Int) (fa' : Option Addr) (fn' fc' : Nat) (fs' : List Fr) (fu' : Int) (oa' : Option Addr) (on' oc' : Nat) (os' : List Int) (dn' vl' : Int) (w : World) (hf : Frs w fa fn fc fs) (ho : Ints w oa on oc os) (hf' : Frs w fa' fn' fc' fs') (ho' : Ints w oa' on' oc' os') :
    Calls Tryz.prog 10 #[.agg #[.slice fa fn fc, .int .i64 fu, .slice oa on oc, .int .i64 dn, .int .i64 vl], .agg #[.slice fa' fn' fc', .int .i64 fu', .slice oa' on' oc', .int .i64 dn', .int .i64 vl']] w fun e w' => e = .returned (.bool (sameS (fs, fu, os, dn, vl) (fs', fu', os', dn', vl'))) ∧ Below w.heap.size w w' := by
  have G : Hid (Below w.heap.size w ((w.alloc (.cells #[.slice fa fn fc, .int .i64 fu, .slice oa on oc, .int .i64 dn, .int .i64 vl] 28)).alloc (.cells #[.slice fa' fn' fc', .int .i64 fu', .slice oa' on' oc', .int .i64 dn', .int .i64 vl'] 28))) := hid (by go_grown)
  have I := hid (And.intro (And.intro hf ho) (And.intro hf' ho'))
  clear hf ho hf' ho'
  by_cases h1 : fu = fu'
  rotate_left
  · have h1' : (fu == fu') = false := by simpa using h1
    go_enter Tryz.func10, Tryz.ntmps10
    go_wp2_with fail
    go_ret
    exact ⟨ret_bool (by simp [sameS, h1]), G.out⟩
  subst h1
  by_cases h2 : dn = dn'
  rotate_left
  · have h2' : (dn == dn') = false := by simpa using h2
    go_enter Tryz.func10, Tryz.ntmps10
    go_wp2_with fail
    go_ret
    exact ⟨ret_bool (by simp [sameS, h2]), G.out⟩
  subst h2
  by_cases h3 : vl = vl'
  rotate_left
  · have h3' : (vl == vl') = false := by simpa using h3
    go_enter Tryz.func10, Tryz.ntmps10
    go_wp2_with fail
    go_ret
    exact ⟨ret_bool (by simp [sameS, h3]), G.out⟩
  subst h3
  have E : Hid (sameS (fs, fu, os, dn, vl) (fs', fu, os', dn, vl) = (decide (os = os') && decide (fs = fs'))) := hid (by simp [sameS])
  go_enter Tryz.func10, Tryz.ntmps10
  go_wp2_with fail
  refine (sameInts_any _ _ _ _ _ _ os os' _ (I.out.1.2.kept G.out) (I.out.2.2.kept G.out)).mono ?_
  rintro e w1 ⟨rfl, b1⟩
  have B1 := hid (kt G.out b1)
  have q0 := kept_cell b1 (b := w.heap.size) (o := 0) (v := .slice fa fn fc) (by simp [go_sem])
  have r0 := kept_cell b1 (b := w.heap.size + 1) (o := 0) (v := .slice fa' fn' fc') (by simp [go_sem])
  clear b1
  by_cases h4 : os = os'
  rotate_left
  · have h4' : decide (os = os') = false := decide_eq_false h4
    have E2 : Hid (sameS (fs, fu, os, dn, vl) (fs', fu, os', dn, vl) = false) := hid (by rw [E.out, h4']; rfl)
    clear h4
    go_wp2_with fail
    go_ret
    exact ⟨ret_bool E2.out.symm, B1.out⟩
  have h4' : decide (os = os') = true := decide_eq_true h4
  have E2 : Hid (sameS (fs, fu, os, dn, vl) (fs', fu, os', dn, vl) = decide (fs = fs')) := hid (by rw [E.out, h4']; rfl)
  clear h4
  go_wp2_with fail
  refine (sameFrames_any _ _ _ _ _ _ fs fs' _ (I.out.1.1.kept B1.out) (I.out.2.1.kept B1.out)).mono ?_
  rintro e w2 ⟨rfl, b2⟩
  go_wp2_with fail
  go_ret
  exact ⟨ret_bool E2.out.symm, kt B1.out b2⟩

end Go.Proofs.YtcngmkbgcfhmdaaGreatDoor

namespace Go.Proofs.YtcngmkbgcfhmdaaGreatDoor
open Go.RowKit
set_option linter.unusedVariables false

set_option maxHeartbeats 400000 in
theorem spoilIntsS_any (a : Option Addr) (n c base : Nat) (w : World) (h : SoftInts w base a n) (hn : n * 8 ≤ 140737488351232) (hc : n ≤ c) (hB : base ≤ w.heap.size) :
    Calls Tryz.prog 22 #[.slice a n c] w fun e w' => e = .returned (.tuple #[]) ∧ Like w w' ∧ Below base w w' := by
  go_enter Tryz.func22, Tryz.ntmps22
  go_wp2
  go_loopw [2] (fun i wr => ∃ q : Nat, q ≤ n ∧ i = .int .i64 q ∧ Like w wr ∧ Below base w wr) (fun i _ => n - (intOf i).toNat)
  case atStart => exact ⟨0, Nat.zero_le _, rfl, Like.refl _, Below.refl _ _⟩
  case round =>
    obtain ⟨q, hq, rfl, hl, hb⟩ := hrel
    by_cases hlt : q < n
    · obtain ⟨b, o, rfl, hbb, hr⟩ := (h.like hl) (by omega)
      obtain ⟨x, hx, hf⟩ := hr q hlt
      have HR := hid hr
      clear hr
      go_wp2
      go_roundw
      case rel => exact ⟨q + 1, by omega, by go_num, hl.trans (Like.set hx), hb.setCell (by simpa using hbb) _⟩
      case measure => simp [intOf]; omega
    · go_wp2
      go_end0
      exact ⟨rfl, hl, hb⟩

set_option maxRecDepth 100000 in
set_option maxHeartbeats 2000000 in
theorem spoilFrames_any (a : Option Addr) (n c base : Nat) (w : World) (h : SoftFrs w base a n) (hn : n * 64 ≤ 140737488351232) (hc : n ≤ c) (hB : base ≤ w.heap.size) :
    Calls Tryz.prog 33 #[.slice a n c] w fun e w' => e = .returned (.tuple #[]) ∧ Like w w' ∧ Below base w w' := by
  go_enter Tryz.func33, Tryz.ntmps33
  go_wp2
  go_loopw [2] (fun i wr => ∃ q : Nat, q ≤ n ∧ i = .int .i64 q ∧ Like w wr ∧ Below base w wr) (fun i _ => n - (intOf i).toNat)
  case atStart => exact ⟨0, Nat.zero_le _, rfl, Like.refl _, Below.refl _ _⟩
  case round =>
    obtain ⟨q, hq, rfl, hl, hb⟩ := hrel
    by_cases hlt : q < n
    · obtain ⟨b, o, rfl, hbb, hr⟩ := (h.like hl) (by omega)
      obtain ⟨x, hx, hf, ⟨a', n', c', k1, k2, k3, k4⟩, a2, n2, c2, m1, m2, m3, m4⟩ := hr q hlt
      clear hr
      have hs := hb.size
      have K4 := hid k4
      have M4 := hid m4
      clear k4 m4
      go_wp2_with fail
      refine (spoilIntsS_any _ _ _ base _ K4.out k2 k3 (by omega)).mono ?_
      rintro e w1 ⟨rfl, hl1, hb1⟩
      obtain ⟨y, hy⟩ := hl1.int hx
      have hf1 := (hl1.frozen _ _ _ hx).trans hf
      have m1' := hl1.slice m1
      have hs1 := hb1.size
      have HL1 := hid hl1
      clear hx hf k1 m1 hl1
      go_wp2_with fail
      refine (spoilIntsS_any _ _ _ base _ (M4.out.like HL1.out) m2 m3 (by omega)).mono ?_
      rintro e w2 ⟨rfl, hl2, hb2⟩
      obtain ⟨z, hz⟩ := hl2.int hy
      have hf2 := (hl2.frozen _ _ _ hy).trans hf1
      have HL2 := hid hl2
      clear hy hf1 m1' hl2
      go_wp2_with fail
      go_roundw
      case rel => exact ⟨q + 1, by omega, by go_num, (hl.trans (HL1.out.trans HL2.out)).trans (Like.set hz), ((hb.trans hb1).trans hb2).setCell (by simpa using hbb) _⟩
      case measure => simp [intOf]; omega
    · go_wp2
      go_end0
      exact ⟨rfl, hl, hb⟩

set_option maxHeartbeats 1000000 in
theorem spoilState_any (fa : Option Addr) (fn fc : Nat) (fu : Int) (oa : Option Addr) (on oc : Nat) (dn vl : Int) (base : Nat) (w : World) (h : SoftFrs w base fa fn) (hn : fn * 64 ≤ 140737488351232) (hc : fn ≤ fc) (h' : SoftInts w base oa on) (hn' : on * 8 ≤ 140737488351232) (hc' : on ≤ oc) (hB : base ≤ w.heap.size) :
    Calls Tryz.prog 12 #[.agg #[.slice fa fn fc, .int .i64 fu, .slice oa on oc, .int .i64 dn, .int .i64 vl]] w fun e w' => e = .returned (.tuple #[]) ∧ Below base w w' := by
  have hA : Below w.heap.size w (w.alloc (.cells #[.slice fa fn fc, .int .i64 fu, .slice oa on oc, .int .i64 dn, .int .i64 vl] 28)) := Below.alloc (Below.refl _ _) (Nat.le_refl _) _
  have A := hid hA
  have H1 := hid (h.like (Like.of_below hA))
  have H2 := hid (h'.like (Like.of_below hA))
  clear h h' hA
  go_enter Tryz.func12, Tryz.ntmps12
  go_wp2_with fail
  refine (spoilFrames_any _ _ _ base _ H1.out hn hc (by simp; omega)).mono ?_
  rintro e w1 ⟨rfl, l1, b1⟩
  have g2 := l1.slice (b := w.heap.size) (o := 2) (a := oa) (n := on) (c := oc) (by simp [go_sem])
  have L1 := hid l1
  have hs := b1.size
  clear l1
  go_wp2_with fail
  refine (spoilIntsS_any _ _ _ base _ (H2.out.like L1.out) hn' hc' (by simp at hs; omega)).mono ?_
  rintro e w2 ⟨rfl, l2, b2⟩
  go_wp2_with fail
  go_end0
  exact ⟨rfl, ((A.out.mono hB).trans b1).trans b2⟩

/-- Numbers with two marked ones behind them, which the slice's length leaves out. -/
structure LentI (w : World) (base g n cap : Nat) (l : List Int) : Prop where
  len : n = l.length
  cap2 : n + 2 ≤ cap
  small : n * 8 ≤ 140737488351232
  row : w.ownsRow base 3 1 (.slice (some ⟨g, 0, none⟩) (n + 2) cap) (n + 2) (ints l ++ [.int .i64 (-7777), .int .i64 (-8888)])
theorem LentI.ints {w : World} {base g n cap : Nat} {l : List Int} (h : LentI w base g n cap l) : Ints w (some ⟨g, 0, none⟩) n cap l := by
  refine ⟨h.len, by have := h.cap2; omega, h.small, fun e => (by cases e), fun hn => ⟨g, 0, rfl, fun i hi => ?_⟩⟩
  have hl := h.len
  rw [Nat.zero_add, h.row.cellAt _ (by omega), List.getElem?_append_left (by rw [ints_len]; omega), ints_at l i (by omega)]
theorem LentI.mark0 {w : World} {base g n cap : Nat} {l : List Int} (h : LentI w base g n cap l) : w.cell? ⟨g, n, none⟩ = some (.int .i64 (-7777)) := by
  have hl := h.len
  rw [h.row.cellAt _ (by omega), List.getElem?_append_right (by rw [ints_len]; omega), ints_len, show n - l.length = 0 by omega]; rfl
theorem LentI.mark1 {w : World} {base g n cap : Nat} {l : List Int} (h : LentI w base g n cap l) : w.cell? ⟨g, n + 1, none⟩ = some (.int .i64 (-8888)) := by
  have hl := h.len
  rw [h.row.cellAt _ (by omega), List.getElem?_append_right (by rw [ints_len]; omega), ints_len, show n + 1 - l.length = 1 by omega]; rfl
theorem LentI.kept {w w' : World} {base g n cap : Nat} {l : List Int} (h : LentI w base g n cap l) (hb : Below w.heap.size w w') : LentI w' base g n cap l := ⟨h.len, h.cap2, h.small, owns_kept h.row hb⟩
theorem LentI.lt {w : World} {base g n cap : Nat} {l : List Int} (h : LentI w base g n cap l) : base ≤ g ∧ g < w.heap.size := h.row.lt g rfl

end Go.Proofs.YtcngmkbgcfhmdaaGreatDoor

namespace Go.Proofs.YtcngmkbgcfhmdaaGreatDoor
open Go.RowKit
set_option linter.unusedVariables false

set_option maxHeartbeats 400000 in
theorem frNumber_any (x : Int) (w : World) :
    Calls Tryz.prog 63 #[.int .i64 x] w fun e w' => e = .returned (.bool (isNum x)) ∧ w' = w := by
  go_enter Tryz.func63, Tryz.ntmps63
  go_wp2_with (go_at_call 82; refine (wrap_any _ _).mono ?_; rintro e w' ⟨rfl, rfl⟩)
  go_ret
  exact ⟨ret_bool (wrap32_eq_iff x), rfl⟩
set_option maxHeartbeats 400000 in
theorem frNotNumber_any (x : Int) (w : World) :
    Calls Tryz.prog 62 #[.int .i64 x] w fun e w' => e = .returned (.bool (!isNum x)) ∧ w' = w := by
  go_enter Tryz.func62, Tryz.ntmps62
  go_wp2_with (go_at_call 63; refine (frNumber_any _ _).mono ?_; rintro e w' ⟨rfl, rfl⟩)
  go_ret
  exact ⟨rfl, rfl⟩

set_option maxHeartbeats 1000000 in
theorem indexNum_any (a : Option Addr) (n c : Nat) (l : List Int) (w : World) (h : Ints w a n c l) :
    Calls Tryz.prog 81 #[.slice a n c, .func (.func 62) #[] #[]] w fun e w' => ∃ r : Int, e = .returned (.int .i64 r) ∧ decide (0 ≤ r) = (!numsB l) ∧ Below w.heap.size w w' := by
  have L := hid h.len
  have hr := h.room
  have hcp := h.cap
  go_enter Tryz.func81, Tryz.ntmps81
  go_wp2
  go_loopw [8] (fun i wr => ∃ q : Nat, q ≤ n ∧ i = .int .i64 q ∧ ((l.take q).all isNum) = true ∧ Below w.heap.size w wr) (fun i _ => n - (intOf i).toNat)
  case atStart => exact ⟨0, Nat.zero_le _, rfl, by simp, by go_grown⟩
  case round =>
    obtain ⟨q, hq, rfl, ht, hb⟩ := hrel
    have HT := hid ht
    clear ht
    by_cases hlt : q < n
    · obtain ⟨b1, o1, ha, r1⟩ := (h.kept hb).row (by omega)
      have c1 := r1 q hlt
      generalize hx : l.getD q 0 = x at c1
      have HX := hid hx
      subst ha
      clear hx r1
      go_wp2_with fail
      refine (frNotNumber_any _ _).mono ?_
      rintro e w1 ⟨rfl, rfl⟩
      cases hm : isNum x
      · have F : Hid (numsB l = false) := hid (all_not_at (l := l) (p := isNum) (q := q) (d := 0) (by have := L.out; omega) (by rw [HX.out]; exact hm))
        go_wp2_with fail
        go_ret
        exact ⟨_, rfl, by rw [F.out]; simp, hb⟩
      · have F : Hid ((l.take (q + 1)).all isNum = true) := hid (all_take_step (d := 0) (by have := L.out; omega) HT.out (by rw [HX.out]; exact hm))
        go_wp2_with fail
        go_roundw
        case rel => exact ⟨q + 1, by omega, by go_num, F.out, hb⟩
        case measure => simp [intOf]; omega
    · have F : Hid (numsB l = true) := hid (all_take_all (l := l) (p := isNum) (by have := L.out; omega) HT.out)
      go_wp2
      go_ret
      exact ⟨_, rfl, by rw [F.out]; simp, hb⟩

set_option maxHeartbeats 400000 in
theorem containsNum_any (a : Option Addr) (n c : Nat) (l : List Int) (w : World) (h : Ints w a n c l) :
    Calls Tryz.prog 61 #[.slice a n c, .func (.func 62) #[] #[]] w fun e w' => e = .returned (.bool (!numsB l)) ∧ Below w.heap.size w w' := by
  go_enter Tryz.func61, Tryz.ntmps61
  go_wp2_with fail
  refine (indexNum_any _ _ _ l _ h).mono ?_
  rintro e w1 ⟨r, rfl, hr, hb⟩
  have HR := hid hr
  clear hr
  go_wp2_with fail
  go_ret
  exact ⟨ret_bool HR.out, hb⟩

set_option maxHeartbeats 400000 in
theorem areNumbers_any (a : Option Addr) (n c : Nat) (l : List Int) (w : World) (h : Ints w a n c l) :
    Calls Tryz.prog 41 #[.slice a n c] w fun e w' => e = .returned (.bool (numsB l)) ∧ Below w.heap.size w w' := by
  go_enter Tryz.func41, Tryz.ntmps41
  go_wp2_with fail
  refine (containsNum_any _ _ _ l _ h).mono ?_
  rintro e w1 ⟨rfl, hb⟩
  go_wp2_with fail
  go_ret
  exact ⟨ret_bool (by simp), hb⟩

set_option maxHeartbeats 400000 in
theorem isInFuel_any (fa : Option Addr) (fn fc : Nat) (fuel : Int) (oa : Option Addr) (on oc : Nat) (dn vl : Int) (w : World) (ho : on * 8 ≤ 140737488351232) :
    Calls Tryz.prog 40 #[.agg #[.slice fa fn fc, .int .i64 fuel, .slice oa on oc, .int .i64 dn, .int .i64 vl]] w fun e w' => e = .returned (.bool (fuelB fuel on)) ∧ Below w.heap.size w w' := by
  by_cases h0 : 0 ≤ fuel
  · by_cases h1 : fuel ≤ 100000 - on
    · have d1 : decide (fuel ≤ 100000 - (on : Int)) = true := by simpa using h1
      go_enter Tryz.func40, Tryz.ntmps40
      go_wp2
      go_ret
      exact ⟨ret_bool (by simp [fuelB, h0, h1]), by go_grown⟩
    · have d1 : decide (fuel ≤ 100000 - (on : Int)) = false := by simpa using h1
      go_enter Tryz.func40, Tryz.ntmps40
      go_wp2
      go_ret
      exact ⟨ret_bool (by simp [fuelB, h1]), by go_grown⟩
  · have d0 : decide (0 ≤ fuel) = false := by simpa using h0
    go_enter Tryz.func40, Tryz.ntmps40
    go_wp2
    go_ret
    exact ⟨ret_bool (by simp [fuelB]; omega), by go_grown⟩

theorem outB_cases (dn vl : Int) (fn : Nat) : outB dn vl fn = true ↔ (dn = 0 ∧ vl = 0 ∧ 1 ≤ fn ∧ fn ≤ 12) ∨ (dn = 1 ∧ isNum vl = true ∧ fn = 0) ∨ ((dn = 2 ∨ dn = 3 ∨ dn = 4) ∧ vl = 0 ∧ fn = 0) := by
  unfold outB
  by_cases h0 : dn = 0
  · subst h0; simp
  · by_cases h1 : dn = 1
    · subst h1; simp
    · simp [h0, h1]
theorem ret_iff {a b : Bool} (h : a = true ↔ b = true) : Ending.returned (.bool a) = .returned (.bool b) := ret_bool (Bool.eq_iff_iff.2 h)

set_option maxHeartbeats 2000000 in
theorem isOutcome_any (fa : Option Addr) (fn fc : Nat) (fuel : Int) (oa : Option Addr) (on oc : Nat) (dn vl : Int) (w : World) (hf : fn * 64 ≤ 140737488351232) :
    Calls Tryz.prog 42 #[.agg #[.slice fa fn fc, .int .i64 fuel, .slice oa on oc, .int .i64 dn, .int .i64 vl]] w fun e w' => e = .returned (.bool (outB dn vl fn)) ∧ Below w.heap.size w w' := by
  by_cases h0 : dn = 0
  · subst h0
    by_cases hv : vl = 0
    · subst hv
      by_cases h1 : 1 ≤ fn
      · go_enter Tryz.func42, Tryz.ntmps42
        go_wp2
        go_ret
        exact ⟨ret_iff (by rw [outB_cases]; simp; omega), by go_grown⟩
      · go_enter Tryz.func42, Tryz.ntmps42
        go_wp2
        go_ret
        exact ⟨ret_iff (by rw [outB_cases]; simp; omega), by go_grown⟩
    · have e : (vl == 0) = false := by simpa using hv
      go_enter Tryz.func42, Tryz.ntmps42
      go_wp2
      go_ret
      exact ⟨ret_iff (by rw [outB_cases]; simp; omega), by go_grown⟩
  · by_cases h1 : dn = 1
    · subst h1
      cases hn : isNum vl
      · go_enter Tryz.func42, Tryz.ntmps42
        go_wp2_with (go_at_call 63; refine (frNumber_any _ _).mono ?_; rintro e w' ⟨rfl, rfl⟩)
        go_ret
        exact ⟨ret_iff (by rw [outB_cases]; simp [hn]), by go_grown⟩
      · go_enter Tryz.func42, Tryz.ntmps42
        go_wp2_with (go_at_call 63; refine (frNumber_any _ _).mono ?_; rintro e w' ⟨rfl, rfl⟩)
        go_ret
        exact ⟨ret_iff (by rw [outB_cases]; simp [hn]), by go_grown⟩
    · have e0 : (dn == 0) = false := by simpa using h0
      have e1 : (dn == 1) = false := by simpa using h1
      by_cases h2 : dn = 2 ∨ dn = 3 ∨ dn = 4
      · by_cases hv : vl = 0
        · subst hv
          rcases h2 with rfl | rfl | rfl
          all_goals
            go_enter Tryz.func42, Tryz.ntmps42
            go_wp2
            go_ret
            exact ⟨ret_iff (by rw [outB_cases]; simp), by go_grown⟩
        · have e : (vl == 0) = false := by simpa using hv
          rcases h2 with rfl | rfl | rfl
          all_goals
            go_enter Tryz.func42, Tryz.ntmps42
            go_wp2
            go_ret
            exact ⟨ret_iff (by rw [outB_cases]; simp; omega), by go_grown⟩
      · have e2 : (dn == 2) = false := by simp; omega
        have e3 : (dn == 3) = false := by simp; omega
        have e4 : (dn == 4) = false := by simp; omega
        go_enter Tryz.func42, Tryz.ntmps42
        go_wp2
        go_ret
        exact ⟨ret_iff (by rw [outB_cases]; simp; omega), by go_grown⟩

end Go.Proofs.YtcngmkbgcfhmdaaGreatDoor

/- Package frame: the checker of a program, what its methods tell. What the document's own answers for frames return: Numbers, Height, frame, FrameMay, Behind. Package frame: what the checker's methods tell; May and State. Package frame: where a program begins (Start). What CopyState returns: the same state, in memory of its own. What the document's own answers for states return: FrameMay, Behind, StateMay. What the document's own Fresh and Start return. Blocks laid one behind another: what lies in each of them. Nothing of the program is named here. The opening question of the statements over frames (awake) is answered yes; what two and small return. -/
import Derived.Test.YtcngmkbgcfhmdaaGreatDoorJ6a
import Derived.Test.YtcngmkbgcfhmdaaGreatDoorVerDev
import Derived.Test.YtcngmkbgcfhmdaaGreatDoorMemFr
import Derived.Test.YtcngmkbgcfhmdaaGreatDoorRefHeights
import Derived.Test.YtcngmkbgcfhmdaaGreatDoorRefWalk
import Derived.Laws.CopyOwn
import Derived.Laws.AppendOwnNone
import Derived.Test.YtcngmkbgcfhmdaaGreatDoorMemInts
import Derived.Deep.RegionHeld3
import Derived.Deep.DrawnRows
namespace Go.Proofs.YtcngmkbgcfhmdaaGreatDoor
open Go.RowKit
set_option linter.unusedVariables false

theorem Tryz.infoInts : (Tryz.prog.info? 26).map (fun i => (i.zero, i.size, i.bytes)) = some (some (.slice none 0 0), 1, 24) := by kernel_rfl

/-- A block's two cells. -/
structure Ck (w : World) (b : Nat) (u v : Value) : Prop where
  c0 : w.cell? ⟨b, 0, none⟩ = some u
  c1 : w.cell? ⟨b, 1, none⟩ = some v
  f0 : w.frozen? ⟨b, 0, none⟩ = false
  f1 : w.frozen? ⟨b, 1, none⟩ = false
theorem Ck.kept {w w' : World} (hb : Below w.heap.size w w') {b : Nat} {u v : Value} (h : Ck w b u v) : Ck w' b u v :=
  ⟨kept_cell hb h.c0, kept_cell hb h.c1, by rw [hb.frozen (lt_of_cell h.c0)]; exact h.f0, by rw [hb.frozen (lt_of_cell h.c1)]; exact h.f1⟩

set_option maxRecDepth 100000 in
set_option maxHeartbeats 2000000 in
theorem checkerOf_any (pa : Option Addr) (pn pc : Nat) (ps : List Fn) (w : World) (hp : Fns w pa pn pc ps) (ld : Ld w) :
    Calls Tryz.prog 43 #[.agg #[.slice pa pn pc]] w fun e w' => Below w.heap.size w w' ∧
      ((verV ps = 0 ∧ ∃ ha hn hc, e = .returned (.tuple #[.agg #[.slice pa pn pc, .slice ha hn hc], .bool true]) ∧ Hts w' ha hn hc (htsAll ps)) ∨ (¬ verV ps = 0 ∧ ∃ a n c a' n' c', e = .returned (.tuple #[.agg #[.slice a n c, .slice a' n' c'], .bool false]))) := by
  obtain ⟨i0, hi, hz0, hz1, hz2⟩ := info_parts Tryz.infoInts
  have L := hid hp.len
  have hr := hp.room
  have hcp := hp.cap
  have HP := hid hp
  have LD := hid ld
  clear hp ld
  go_enter Tryz.func43, Tryz.ntmps43
  go_wp2_with fail
  go_loopw [15] (fun i wr => ∃ q : Nat, q ≤ pn ∧ i = .int .i64 q ∧ wr.cell? ⟨w.heap.size, 0, none⟩ = some (.slice pa pn pc) ∧ Ck wr (w.heap.size + 1) (.slice none 0 0) (.slice none 0 0) ∧
      (∃ va vn vc, Ck wr (w.heap.size + 1 + 1) (.slice pa pn pc) (.slice va vn vc) ∧ OwnHts 3 26 wr (w.heap.size + 3) (.slice va vn vc) ((htsAll ps).take q)) ∧ (∀ j, j < q → (htsV ps (j : Int)).2.2 = 0) ∧ Below w.heap.size w wr) (fun i _ => pn - (intOf i).toNat)
  case atStart => exact ⟨0, Nat.zero_le _, rfl, by simp [go_sem], ⟨by simp [go_sem], by simp [go_sem], by simp [go_sem], by simp [go_sem]⟩, ⟨_, _, _, ⟨by simp [go_sem], by simp [go_sem], by simp [go_sem], by simp [go_sem]⟩, OwnHts.nil _ _ _ _⟩, fun j hj => absurd hj (by omega), by go_grown⟩
  case round =>
    obtain ⟨q, hq, rfl, g0, k1, ⟨va, vn, vc, k2, ho⟩, hall, hb⟩ := hrel
    have hs := hb.size
    by_cases hlt : q < pn
    · go_wp2_with fail
      refine (verHeights _ _ _ ps (q : Int) _ (HP.out.kept hb) (LD.out.up hb)).mono ?_
      rintro e w1 ⟨v1, rfl, o1, b1⟩
      have hlen1 := hts_len (ps := ps) (fn := (q : Int))
      obtain ⟨a1, n1, c1, rfl, i1⟩ := ints_of_owns o1 (by omega)
      by_cases he : (htsV ps (q : Int)).2.2 = 0
      · rw [he]
        have HE := hid he
        have HA := hid hall
        have K1 := hid k1
        have K2 := hid k2
        have G0 := hid g0
        have B1 := hid b1
        have hs1 := b1.size
        have hlt2 := lt_of_cell k2.c0
        have hB5 : Below wr.heap.size wr (w1.alloc (.cells #[.slice a1 n1 c1] 26)) := kt b1 (Below.alloc (Below.refl _ _) (Nat.le_refl _) _)
        obtain ⟨t, ht1, ht2, ht3⟩ := ho
        have hlen : ((htsAll ps).take q).length = q := by rw [List.length_take, htsAll_len]; have := L.out; omega
        rw [hlen] at ht1 ht2 ht3
        have HO5 := hid (owns_kept ht2 hB5)
        have HC5 : Hid ((w1.alloc (.cells #[.slice a1 n1 c1] 26)).ownsRow (w.heap.size + 3) 3 1 (.slice a1 n1 c1) (htsV ps (q : Int)).1.length (ints (htsV ps (q : Int)).1)) := hid (owns_base (o1.alloc _) (by have := lt_of_cell k2.c0; omega))
        have H3 := hid (fun i (hi : i < q) => (⟨(ht3 i hi).1, owns_kept (ht3 i hi).2 hB5⟩ : (((htsAll ps).take q).getD i []).length * 8 ≤ 140737488351232 ∧ World.ownsRow _ (w.heap.size + 3) 3 1 (t.getD i undef) (((htsAll ps).take q).getD i []).length (ints (((htsAll ps).take q).getD i []))))
        have hnews := World.news_of_block (heap_alloc_new w1 (.cells #[.slice a1 n1 c1] 26))
        have HN := hid (fun b (hb : b < w.heap.size + 3) (h : some b = (Value.slice va vn vc).ownBlock) => (by have := (HO5.out.lt _ h.symm).1; omega : False))
        have J := hid (And.intro (kept_cell hB5 g0) (And.intro (k1.kept hB5) (k2.kept hB5)))
        have HT1 := hid ht1
        have HL := hid hlen
        have HB5 := hid hB5
        have q2 := (k2.kept b1).c1
        have p0 := kept_cell b1 g0
        clear hB5 ht1 ht2 ht3 hlen o1 i1 b1 he hall k1 k2 g0
        go_wp2_with (at_builtin; go_must ((refine wpList_append_lies _ rfl _ _ 48 rfl (w.heap.size + 3) 26 i0 (.slice none 0 0) 1 24 Tryz.underlying48 hi hz0 hz1 hz2 rfl (by decide) (.slice va vn vc) q t rfl HO5.out ⟨w1.heap.size, 0, none⟩ 1 1 [.slice a1 n1 c1] rfl rfl hnews (by intro u hu; simp at hu; rcases hu with rfl; rfl) (by decide) (by unfold maxLen; omega) (by omega) (by simp; omega) (w1.heap.size + 1) (by simp) ?_; intro g cap w6 ho6 hg6 hat hlt6; have j0 := hg6.cell J.out.1 (HN.out w.heap.size (by omega)); have j1 := hg6.cell J.out.2.1.c0 (HN.out (w.heap.size + 1) (by omega)); have j2 := hg6.cell J.out.2.1.c1 (HN.out (w.heap.size + 1) (by omega)); have j3 := hg6.cell J.out.2.2.c0 (HN.out (w.heap.size + 1 + 1) (by omega)); have j4 := hg6.cell J.out.2.2.c1 (HN.out (w.heap.size + 1 + 1) (by omega)); have f1 := (hg6.frozen_far ⟨w.heap.size + 1, 0, none⟩ (lt_of_cell J.out.2.1.c0) (HN.out (w.heap.size + 1) (by omega))).trans J.out.2.1.f0; have f2 := (hg6.frozen_far ⟨w.heap.size + 1, 1, none⟩ (lt_of_cell J.out.2.1.c1) (HN.out (w.heap.size + 1) (by omega))).trans J.out.2.1.f1; have f3 := (hg6.frozen_far ⟨w.heap.size + 1 + 1, 0, none⟩ (lt_of_cell J.out.2.2.c0) (HN.out (w.heap.size + 1 + 1) (by omega))).trans J.out.2.2.f0; have f4 := (hg6.frozen_far ⟨w.heap.size + 1 + 1, 1, none⟩ (lt_of_cell J.out.2.2.c1) (HN.out (w.heap.size + 1 + 1) (by omega))).trans J.out.2.2.f1; have P := hid (And.intro ho6 (And.intro hg6 hlt6)); clear ho6 hg6 hat hlt6)))
        go_roundw
        case rel =>
          obtain ⟨p1, p2, p3⟩ := P.out
          refine ⟨q + 1, by omega, by go_num, cell_set_far j0 (by simp; omega), ⟨cell_set_far j1 (by simp), cell_set_far j2 (by simp), by simp [f1], by simp [f2]⟩, ⟨_, _, _, ⟨by rw [World.cell?_setCell_other _ _ _ _ (by simp)]; exact j3, World.cell?_setCell_same _ _ _ j4, by simp [f3], by simp [f4]⟩, ?_⟩, ?_, ?_⟩
          · rw [htsAll_take (by have := L.out; omega)]
            exact (OwnHts.snoc (by decide) HL.out HT1.out HO5.out H3.out HC5.out (by omega) p1 p2).set _ _ (by simp)
          · intro j hj
            rcases Nat.lt_or_ge j q with h | h
            · exact HA.out j h
            · have : j = q := by omega
              rw [this]; exact HE.out
          · exact Below.setCell (Below.grown (hb.trans (HB5.out.mono hs)) p2 (by have := HB5.out.size; omega) (fun k hk => by have := (HO5.out.lt k hk).1; omega)) (by simp; omega) _
        case measure => simp [intOf]; omega
      · have he' : ((htsV ps (q : Int)).2.2 != 0) = true := by simp [he]
        have K1 := k1.kept b1
        obtain ⟨j1, j2, f1, f2⟩ := K1
        have HB := hid (kt hb b1)
        have HV := hid (ver_bad (ps := ps) (i := q) (by have := L.out; omega) he)
        clear o1 i1 b1 he hall k1 k2 g0 ho
        go_wp2_with fail
        refine bodyPost_ret (v := .tuple #[.agg #[.slice none 0 0, .slice none 0 0], .bool false]) (by simp [results, Tryz.results43, go_sem, j1, j2]) rfl ⟨?_, .inr ⟨HV.out, _, _, _, _, _, _, rfl⟩⟩
        exact ((HB.out.setCell (by simp) _).setCell (by simp) _)
    · have hqn : q = pn := by omega
      subst hqn
      obtain ⟨j1, j2, f1, f2⟩ := k1
      obtain ⟨j3, j4, f3, f4⟩ := k2
      have HO := hid ho
      have HA := hid hall
      clear ho hall
      by_cases h0 : 0 < q
      · have HV : Hid (verV ps = 0) := hid (ver_all (by rw [← L.out]; exact h0) (fun i hi => HA.out i (by rw [L.out]; exact hi)))
        have hvn : vn = q := by
          obtain ⟨t, _, ht2, _⟩ := HO.out
          have e : ((htsAll ps).take q).length = q := by rw [List.length_take, htsAll_len]; have := L.out; omega
          rw [e] at ht2
          rcases ht2.2 with ⟨e0, e1⟩ | ⟨g, cap, cur, e0, _⟩
          · omega
          · cases e0; rfl
        subst hvn
        have hl8 := ver_some HV.out
        have hq8 : vn ≤ 8 := by rw [L.out]; exact hl8.2
        have RD := hid (HO.out)
        rw [List.take_of_length_le (by rw [htsAll_len, ← L.out]; exact Nat.le_refl _)] at RD
        go_wp2_with fail
        go_region
        all_goals
          go_wp2_with fail
          obtain ⟨ha, hn, hc, e9, r9⟩ := ((RD.out.set ⟨w.heap.size + 1, 0, none⟩ (.slice pa vn pc) (by simp)).set ⟨w.heap.size + 1, 1, none⟩ (.slice va vn vc) (by simp)).reads (by rw [htsAll_len]; omega)
          cases e9
          refine bodyPost_ret (v := .tuple #[.agg #[.slice pa vn pc, .slice va vn vc], .bool true]) (by simp [results, Tryz.results43, go_sem, j1, j2]) rfl ⟨?_, .inl ⟨HV.out, _, _, _, rfl, ?_⟩⟩
          · exact (((hb.setCell (p := ⟨w.heap.size + 1, 0, none⟩) (by simp) (.slice pa vn pc)).setCell (p := ⟨w.heap.size + 1, 1, none⟩) (by simp) (.slice va vn vc)).drew)
          · exact r9.kept (Below.drew (Below.refl _ _))
      · have HV : Hid (¬ verV ps = 0) := hid (fun h => by have := ver_some h; have := L.out; omega)
        have hq0 : q = 0 := by omega
        subst hq0
        have hvn : vn = 0 := by
          obtain ⟨t, _, ht2, _⟩ := HO.out
          rw [List.take_zero] at ht2
          rcases ht2.2 with ⟨e0, e1⟩ | ⟨g, cap, cur, e0, _⟩
          · cases e0; rfl
          · cases e0; rfl
        subst hvn
        go_wp2_with fail
        go_region
        all_goals
          go_wp2_with fail
          refine bodyPost_ret (v := .tuple #[.agg #[.slice pa 0 pc, .slice va 0 vc], .bool false]) (by simp [results, Tryz.results43, go_sem, j1, j2]) rfl ⟨?_, .inr ⟨HV.out, _, _, _, _, _, _, rfl⟩⟩
          exact (((hb.setCell (p := ⟨w.heap.size + 1, 0, none⟩) (by simp) (.slice pa 0 pc)).setCell (p := ⟨w.heap.size + 1, 1, none⟩) (by simp) (.slice va 0 vc)).drew)

end Go.Proofs.YtcngmkbgcfhmdaaGreatDoor

namespace Go.Proofs.YtcngmkbgcfhmdaaGreatDoor
open Go.RowKit
set_option linter.unusedVariables false

theorem height_le (ps : List Fn) (fn pc : Int) : -1 ≤ heightV ps fn pc ∧ heightV ps fn pc ≤ 8 := by
  by_cases h : 0 ≤ heightV ps fn pc
  · obtain ⟨f, q, rfl, rfl, hf, hq, he, hq', e⟩ := reached_in h
    obtain ⟨_, f', e', hf', hw, _⟩ := hts_ok he
    have e2 : f' = f := by omega
    subst e2
    rw [e] at h ⊢
    refine ⟨by omega, ?_⟩
    have hl := hw.len
    have hr := hw.only q (by omega) h
    rcases hr.cases with rfl | ⟨p, hp, hn⟩
    · rw [hw.first]; omega
    · have hpr := hw.reach (by omega) hp
      rcases hw.gone p hpr.1 hpr.2 with h1 | h1
      · cases h1
      · rw [h1.2.2 q hn]; exact h1.2.1
  · unfold heightV at h ⊢
    split
    · rename_i hc
      rw [if_pos hc] at h
      obtain ⟨_, f, e, hf, hw, _⟩ := hts_ok hc.1
      have := hw.low pc.toNat (by rw [← hw.len]; have := hc.2; simp [inB] at this; omega)
      omega
    · omega

def nkB (l : List Int) (k : Int) : Bool := numsB l && lenB l k
theorem lenB_of {l : List Int} {n : Nat} {k : Int} (h : n = l.length) : ((n : Int) == k) = lenB l k := by
  unfold lenB; rw [← h, Bool.eq_iff_iff]; simp

set_option maxHeartbeats 1000000 in
theorem refNumbers_any (a : Option Addr) (n c : Nat) (l : List Int) (k : Int) (w : World) (h : Ints w a n c l) :
    Calls Tryz.prog 51 #[.slice a n c, .int .i64 k] w fun e w' => e = .returned (.bool (nkB l k)) ∧ Below w.heap.size w w' := by
  have L := hid h.len
  have hr := h.room
  have hcp := h.cap
  go_enter Tryz.func51, Tryz.ntmps51
  go_wp2
  go_loopw [5] (fun i wr => ∃ q : Nat, q ≤ n ∧ i = .int .i64 q ∧ ((l.take q).all isNum) = true ∧ Below w.heap.size w wr) (fun i _ => n - (intOf i).toNat)
  case atStart => exact ⟨0, Nat.zero_le _, rfl, by simp, by go_grown⟩
  case round =>
    obtain ⟨q, hq, rfl, ht, hb⟩ := hrel
    have HT := hid ht
    clear ht
    by_cases hlt : q < n
    · obtain ⟨b1, o1, ha, r1⟩ := (h.kept hb).row (by omega)
      have c1 := r1 q hlt
      generalize hx : l.getD q 0 = x at c1
      have HX := hid hx
      subst ha
      clear hx r1
      go_wp2_with fail
      refine (refNumber_any _ _).mono ?_
      rintro e w1 ⟨rfl, rfl⟩
      cases hm : isNum x
      · have F : Hid (nkB l k = false) := hid (by unfold nkB; rw [show numsB l = false from all_not_at (l := l) (p := isNum) (q := q) (d := 0) (by have := L.out; omega) (by rw [HX.out]; exact hm)]; rfl)
        go_wp2_with fail
        go_ret
        exact ⟨ret_bool F.out.symm, hb⟩
      · have F : Hid ((l.take (q + 1)).all isNum = true) := hid (all_take_step (d := 0) (by have := L.out; omega) HT.out (by rw [HX.out]; exact hm))
        go_wp2_with fail
        go_roundw
        case rel => exact ⟨q + 1, by omega, by go_num, F.out, hb⟩
        case measure => simp [intOf]; omega
    · have F : Hid (numsB l = true) := hid (all_take_all (l := l) (p := isNum) (by have := L.out; omega) HT.out)
      go_wp2
      go_ret
      exact ⟨ret_bool (by unfold nkB; rw [F.out, Bool.true_and]; exact lenB_of L.out), hb⟩

set_option maxHeartbeats 1000000 in
theorem refHeight_any (pa : Option Addr) (pn pc : Nat) (ps : List Fn) (fn x : Int) (w : World) (hp : Fns w pa pn pc ps) :
    Calls Tryz.prog 75 #[.agg #[.slice pa pn pc], .int .i64 fn, .int .i64 x] w fun e w' => e = .returned (.int .i64 (heightV ps fn x)) ∧ Below w.heap.size w w' := by
  have HP := hid hp
  clear hp
  go_enter Tryz.func75, Tryz.ntmps75
  go_wp2_with fail
  refine (refHeights_any _ _ _ ps fn _ (HP.out.kept (by go_grown))).mono ?_
  rintro e w1 ⟨v1, rfl, o1, b1⟩
  have hlen1 := hts_len (ps := ps) (fn := fn)
  obtain ⟨a1, n1, c1, rfl, i1⟩ := ints_of_owns o1 (by omega)
  have B := hid (kt (by go_grown : Below w.heap.size w (w.alloc (.cells #[.slice pa pn pc] 24))) b1)
  have hr := i1.room
  have hc := i1.cap
  have L := hid i1.len
  clear o1 b1
  by_cases he : (htsV ps fn).2.2 = 0
  · rw [he]
    by_cases h0 : x < 0
    · have H : Hid (heightV ps fn x = -1) := hid (height_out (by simp [inB]; omega))
      clear he
      go_wp2_with fail
      go_ret
      exact ⟨ret_int H.out.symm, B.out⟩
    · obtain ⟨q, rfl⟩ : ∃ q : Nat, x = q := ⟨x.toNat, by omega⟩
      by_cases h1 : q < n1
      · have H : Hid (heightV ps fn (q : Int) = (htsV ps fn).1.getD q 0) := hid (height_at he (by have := L.out; omega))
        obtain ⟨b2, o2, rfl, r2⟩ := i1.row (by omega)
        have c2 := r2 q h1
        generalize hx : (htsV ps fn).1.getD q 0 = y at c2 H
        clear hx he i1 r2
        go_wp2_with fail
        go_ret
        exact ⟨ret_int H.out.symm, B.out⟩
      · have H : Hid (heightV ps fn (q : Int) = -1) := hid (height_out (by simp [inB]; have := L.out; omega))
        clear he
        go_wp2_with fail
        go_ret
        exact ⟨ret_int H.out.symm, B.out⟩
  · have he' : ((htsV ps fn).2.2 != 0) = true := by simp [he]
    have H : Hid (heightV ps fn x = -1) := hid (height_bad he)
    clear he
    go_wp2_with fail
    go_ret
    exact ⟨ret_int H.out.symm, B.out⟩

theorem frB_nk {ps : List Fn} {less x y : Int} {ll sl : List Int} {f : Nat} (hx : x = f) (h : 0 ≤ heightV ps x y) : frB ps less (x, y, ll, sl) = (nkB ll (ps.getD f noFn).2.1 && nkB sl (heightV ps x y - less)) := by
  subst hx
  simp only [frB, nkB, reachedB, decide_eq_true h, Bool.true_and, Int.toNat_natCast]
  cases lenB ll (ps.getD f noFn).2.1 <;> cases lenB sl (heightV ps (f : Int) y - less) <;> cases numsB ll <;> cases numsB sl <;> rfl
theorem frB_low {ps : List Fn} {less x y : Int} {ll sl : List Int} (h : ¬ 0 ≤ heightV ps x y) : frB ps less (x, y, ll, sl) = false := by
  simp [frB, reachedB]; omega

set_option maxRecDepth 100000 in
set_option maxHeartbeats 2000000 in
theorem refFrame_any (pa : Option Addr) (pn pc : Nat) (ps : List Fn) (x y : Int) (la : Option Addr) (ln lc : Nat) (ll : List Int) (sa : Option Addr) (sn sc : Nat) (sl : List Int) (less : Int) (w : World) (hp : Fns w pa pn pc ps) (hl : Ints w la ln lc ll) (hs : Ints w sa sn sc sl) (h0 : 0 ≤ less) (h1 : less ≤ 1) :
    Calls Tryz.prog 53 #[.agg #[.slice pa pn pc], .agg #[.int .i64 x, .int .i64 y, .slice la ln lc, .slice sa sn sc], .int .i64 less] w fun e w' => e = .returned (.bool (frB ps less (x, y, ll, sl))) ∧ Below w.heap.size w w' := by
  have HP := hid hp
  have HL := hid hl
  have HS := hid hs
  have LP := hid hp.len
  have hpr := hp.room
  have hpc := hp.cap
  have hbd := height_le ps x y
  clear hl hs
  go_enter Tryz.func53, Tryz.ntmps53
  go_wp2_with fail
  refine (refHeight_any _ _ _ ps x y _ (HP.out.kept (by go_grown))).mono ?_
  rintro e w1 ⟨rfl, b1⟩
  have B : Hid (Below w.heap.size w w1) := hid (kt (by go_grown) b1)
  have p0 := cell_regrown (kept_cell b1 (b := w.heap.size) (o := 0) (v := .slice pa pn pc) (by simp [go_sem]))
  have q0 := cell_regrown (kept_cell b1 (b := w.heap.size + 1) (o := 0) (v := .int .i64 x) (by simp [go_sem]))
  have q2 := cell_regrown (kept_cell b1 (b := w.heap.size + 1) (o := 2) (v := .slice la ln lc) (by simp [go_sem]))
  have q3 := cell_regrown (kept_cell b1 (b := w.heap.size + 1) (o := 3) (v := .slice sa sn sc) (by simp [go_sem]))
  clear b1
  by_cases hh : 0 ≤ heightV ps x y
  · obtain ⟨f, _, rfl, _, hf, _, _, _, _⟩ := reached_in hh
    have hfn : f < pn := by rw [LP.out]; exact hf
    obtain ⟨b0, o0, fx, fy, fa, fn, fc, fl, rfl, e3, d0, d1, d2, i3⟩ := (HP.out.kept B.out).at f hfn
    have d1' := cell_regrown d1
    have E := hid (frB_nk (ps := ps) (less := less) (y := y) (ll := ll) (sl := sl) rfl hh)
    rw [e3] at E
    generalize hG : heightV ps (f : Int) y = H at hh hbd E ⊢
    clear hG d0 d1 d2 i3 e3 hp
    cases hA : nkB ll fy
    · have E2 := hid E.out
      rw [hA] at E2
      go_wp2_with fail
      refine wp_region_quiet_below (by kernel_rfl) (by kernel_rfl) ?_
      repeat (go_big_quiet_step (first | (go_at_call 51; exact Calls.regrown_of (refNumbers_any _ _ _ ll _ _ ((HL.out.kept B.out).kept (below_regrown _ _ _))))))
      refine wpQuiet_nil ?_
      intro _ hw'
      obtain ⟨⟨dq, osq⟩, hw''⟩ := hw'
      subst hw''
      go_wp2_with fail
      go_ret
      exact ⟨ret_bool (by rw [E2.out]; rfl), kt B.out (below_regrown _ _ _)⟩
    · have E2 := hid E.out
      rw [hA] at E2
      go_wp2_with fail
      refine wp_region_quiet_below (by kernel_rfl) (by kernel_rfl) ?_
      repeat (go_big_quiet_step (first | (go_at_call 51; first | exact Calls.regrown_of (refNumbers_any _ _ _ ll _ _ ((HL.out.kept B.out).kept (below_regrown _ _ _))) | exact Calls.regrown_of (refNumbers_any _ _ _ sl _ _ ((HS.out.kept B.out).kept (below_regrown _ _ _))))))
      refine wpQuiet_nil ?_
      intro _ hw'
      obtain ⟨⟨dq, osq⟩, hw''⟩ := hw'
      subst hw''
      go_wp2_with fail
      go_ret
      exact ⟨ret_bool (by rw [E2.out]; rfl), kt B.out (below_regrown _ _ _)⟩
  · have E := hid (frB_low (ps := ps) (less := less) (ll := ll) (sl := sl) hh)
    have d : decide (0 ≤ heightV ps x y) = false := by simpa using hh
    clear hp
    go_wp2_with fail
    go_quiet (fail)
    go_wp2_with fail
    go_ret
    exact ⟨ret_bool E.out.symm, below_drewN B.out _⟩

end Go.Proofs.YtcngmkbgcfhmdaaGreatDoor

namespace Go.Proofs.YtcngmkbgcfhmdaaGreatDoor
open Go.RowKit
set_option linter.unusedVariables false

theorem reached_eq {ps : List Fn} {f q : Nat} (hv : verV ps = 0) (hf : f < ps.length) {hl : List Int} (e : (htsAll ps).getD f [] = hl) (hq : q < hl.length) : heightV ps (f : Int) (q : Int) = hl.getD q 0 := by
  rw [htsAll_at hf] at e
  rw [height_at (ver_at hv hf) (by rw [e]; exact hq), e]
theorem reached_off {ps : List Fn} {f : Nat} {x : Int} (hf : f < ps.length) {hl : List Int} (e : (htsAll ps).getD f [] = hl) (hq : x < 0 ∨ (hl.length : Int) ≤ x) : reachedB ps (f : Int) x = false := by
  rw [htsAll_at hf] at e
  unfold reachedB
  rw [height_out (by rw [e]; simp [inB]; omega)]
  rfl

set_option maxRecDepth 100000 in
set_option maxHeartbeats 2000000 in
theorem isReached_any (pa : Option Addr) (pn pc : Nat) (ha : Option Addr) (hn hc : Nat) (ps : List Fn) (fn x : Int) (w : World) (hh : Hts w ha hn hc (htsAll ps)) (hv : verV ps = 0) :
    Calls Tryz.prog 84 #[.agg #[.slice pa pn pc, .slice ha hn hc], .int .i64 fn, .int .i64 x] w fun e w' => e = .returned (.bool (reachedB ps fn x)) ∧ Below w.heap.size w w' := by
  have L : Hid (hn = ps.length) := hid (by rw [hh.len, htsAll_len])
  have hr := hh.room
  have hcp := hh.cap
  have HV := hid hv
  clear hv
  by_cases h0 : fn < 0
  · have E : Hid (reachedB ps fn x = false) := hid (by unfold reachedB; rw [reached_out (.inl h0)]; rfl)
    go_enter Tryz.func84, Tryz.ntmps84
    go_wp2_with fail
    go_ret
    exact ⟨ret_bool E.out.symm, by go_grown⟩
  obtain ⟨f, rfl⟩ : ∃ f : Nat, fn = f := ⟨fn.toNat, by omega⟩
  by_cases h1 : f < hn
  rotate_left
  · have E : Hid (reachedB ps (f : Int) x = false) := hid (by unfold reachedB; rw [reached_out (.inr (by have := L.out; omega))]; rfl)
    go_enter Tryz.func84, Tryz.ntmps84
    go_wp2_with fail
    go_ret
    exact ⟨ret_bool E.out.symm, by go_grown⟩
  obtain ⟨b0, o0, a1, n1, c1, rfl, d0, i1⟩ := hh.at f h1
  have hf : f < ps.length := by rw [← L.out]; exact h1
  generalize hg : (htsAll ps).getD f [] = hl at i1
  have HG := hid hg
  have L1 := hid i1.len
  have hr1 := i1.room
  have hc1 := i1.cap
  have z0 := lt_of_cell d0
  clear hg hh
  by_cases h2 : x < 0
  · have E : Hid (reachedB ps (f : Int) x = false) := hid (reached_off hf HG.out (.inl h2))
    go_enter Tryz.func84, Tryz.ntmps84
    go_wp2_with fail
    go_ret
    exact ⟨ret_bool E.out.symm, by go_grown⟩
  obtain ⟨q, rfl⟩ : ∃ q : Nat, x = q := ⟨x.toNat, by omega⟩
  by_cases h3 : q < n1
  · have E : Hid (reachedB ps (f : Int) (q : Int) = decide (0 ≤ hl.getD q 0)) := hid (by unfold reachedB; rw [reached_eq HV.out hf HG.out (by rw [← L1.out]; exact h3)])
    obtain ⟨b2, o2, rfl, r2⟩ := i1.row (by omega)
    have c2 := r2 q h3
    have z2 := lt_of_cell c2
    generalize hl.getD q 0 = y at c2 E
    clear r2 i1
    go_enter Tryz.func84, Tryz.ntmps84
    go_wp2_with fail
    go_ret
    exact ⟨ret_bool E.out.symm, by go_grown⟩
  · have E : Hid (reachedB ps (f : Int) (q : Int) = false) := hid (reached_off hf HG.out (.inr (by have := L1.out; omega)))
    go_enter Tryz.func84, Tryz.ntmps84
    go_wp2_with fail
    go_ret
    exact ⟨ret_bool E.out.symm, by go_grown⟩

theorem frB_parts {ps : List Fn} {less : Int} {f : Nat} {y : Int} {ll sl : List Int} {fx fy : Int} {fl : List (Int × Int)} {H : Int} (e : ps.getD f noFn = (fx, fy, fl)) (hh : 0 ≤ heightV ps (f : Int) y) (hH : heightV ps (f : Int) y = H) :
    frB ps less ((f : Int), y, ll, sl) = (lenB ll fy && (lenB sl (H - less) && (numsB ll && numsB sl))) := by
  subst hH
  simp only [frB, reachedB, decide_eq_true hh, Bool.true_and, Int.toNat_natCast, e]

set_option maxRecDepth 100000 in
set_option maxHeartbeats 4000000 in
theorem mayBe_any (pa : Option Addr) (pn pc : Nat) (ha : Option Addr) (hn hc : Nat) (ps : List Fn) (x y : Int) (la : Option Addr) (ln lc : Nat) (ll : List Int) (sa : Option Addr) (sn sc : Nat) (sl : List Int) (less : Int) (w : World) (hp : Fns w pa pn pc ps) (hh : Hts w ha hn hc (htsAll ps)) (hv : verV ps = 0) (hl : Ints w la ln lc ll) (hs : Ints w sa sn sc sl) (l0 : 0 ≤ less) (l1 : less ≤ 1) :
    Calls Tryz.prog 65 #[.agg #[.slice pa pn pc, .slice ha hn hc], .agg #[.int .i64 x, .int .i64 y, .slice la ln lc, .slice sa sn sc], .int .i64 less] w fun e w' => e = .returned (.bool (frB ps less (x, y, ll, sl))) ∧ Below w.heap.size w w' := by
  have HP := hid hp
  have HH := hid hh
  have HL := hid hl
  have HS := hid hs
  have HV := hid hv
  have LP := hid hp.len
  have LH : Hid (hn = ps.length) := hid (by rw [hh.len, htsAll_len])
  have LL := hid hl.len
  have LS := hid hs.len
  have hpr := hp.room
  have hpc := hp.cap
  have hhr := hh.room
  have hhc := hh.cap
  have hlr := hl.room
  have hlc := hl.cap
  have hsr := hs.room
  have hsc := hs.cap
  clear hl hs hv hp hh
  go_enter Tryz.func65, Tryz.ntmps65
  go_wp2_with fail
  refine (isReached_any _ _ _ _ _ _ ps x y _ (HH.out.kept (by go_grown)) HV.out).mono ?_
  rintro e w1 ⟨rfl, b1⟩
  have B : Hid (Below w.heap.size w w1) := hid (kt (by go_grown) b1)
  have p0 := kept_cell b1 (b := w.heap.size) (o := 0) (v := .slice pa pn pc) (by simp [go_sem])
  have p1 := kept_cell b1 (b := w.heap.size) (o := 1) (v := .slice ha hn hc) (by simp [go_sem])
  have q0 := kept_cell b1 (b := w.heap.size + 1) (o := 0) (v := .int .i64 x) (by simp [go_sem])
  have q1 := kept_cell b1 (b := w.heap.size + 1) (o := 1) (v := .int .i64 y) (by simp [go_sem])
  have q2 := kept_cell b1 (b := w.heap.size + 1) (o := 2) (v := .slice la ln lc) (by simp [go_sem])
  have q3 := kept_cell b1 (b := w.heap.size + 1) (o := 3) (v := .slice sa sn sc) (by simp [go_sem])
  clear b1
  cases hrb : reachedB ps x y
  · have E := hid (frB_low (ps := ps) (less := less) (ll := ll) (sl := sl) (x := x) (y := y) (by simpa [reachedB] using hrb))
    go_wp2_with fail
    go_ret
    exact ⟨ret_bool E.out.symm, B.out⟩
  · have hh : 0 ≤ heightV ps x y := by simpa [reachedB] using hrb
    have hbd := height_le ps x y
    obtain ⟨f, q, rfl, rfl, hf, _, _, hq, hH⟩ := reached_in hh
    have hfn : f < pn := by rw [LP.out]; exact hf
    have hfh : f < hn := by rw [LH.out]; exact hf
    obtain ⟨b0, o0, fx, fy, fa, fn, fc, fl, rfl, e3, d0, d1, d2, i3⟩ := (HP.out.kept B.out).at f hfn
    obtain ⟨b5, o5, a5, n5, c5, rfl, d5, i5⟩ := (HH.out.kept B.out).at f hfh
    rw [htsAll_at hf] at i5
    have hq5 : q < n5 := by rw [i5.len]; exact hq
    obtain ⟨b6, o6, rfl, r6⟩ := i5.row (by omega)
    have d6 := r6 q hq5
    rw [← hH] at d6
    have hr5 := i5.room
    have hc5 := i5.cap
    have E := hid (frB_parts (ps := ps) (less := less) (y := (q : Int)) (ll := ll) (sl := sl) e3 hh rfl)
    generalize hG : heightV ps (f : Int) (q : Int) = H at hh hbd E d6
    clear hG d0 d2 i3 e3 hrb r6 i5 hH hq
    go_wp2_with fail
    go_quiet (fail)
    go_wp2_with fail
    have bd := below_drewN (Below.refl w1.heap.size w1) nq
    have B2 := hid (kt B.out bd)
    replace p0 := cell_regrown (kept_cell bd p0)
    replace q0 := cell_regrown (kept_cell bd q0)
    replace q2 := cell_regrown (kept_cell bd q2)
    replace q3 := cell_regrown (kept_cell bd q3)
    replace d1 := cell_regrown (kept_cell bd d1)
    clear p1 q1 d5 d6 bd
    generalize w1.drewN nq = w2 at *
    by_cases hA : (ln : Int) = fy
    rotate_left
    · have hA' : ((ln : Int) == fy) = false := by simpa using hA
      have E2 : Hid (frB ps less ((f : Int), (q : Int), ll, sl) = false) := hid (by rw [E.out, ← lenB_of LL.out, hA']; rfl)
      clear hA
      refine wp_region_quiet_below (by kernel_rfl) (by kernel_rfl) ?_
      repeat (go_big_quiet_step (first | (go_at_call 41; first | exact Calls.regrown_of (areNumbers_any _ _ _ ll _ ((HL.out.kept B2.out).kept (below_regrown _ _ _))) | exact Calls.regrown_of (areNumbers_any _ _ _ sl _ ((HS.out.kept B2.out).kept (below_regrown _ _ _))))))
      refine wpQuiet_nil ?_
      intro _ hw'
      obtain ⟨⟨dq, osq⟩, hw''⟩ := hw'
      subst hw''
      go_wp2_with fail
      go_ret
      exact ⟨ret_bool E2.out.symm, kt B2.out (below_regrown _ _ _)⟩
    have E1 : Hid (frB ps less ((f : Int), (q : Int), ll, sl) = (lenB sl (H - less) && (numsB ll && numsB sl))) := hid (by rw [E.out, ← lenB_of LL.out, hA]; simp)
    subst hA
    by_cases hC : (sn : Int) = H - less
    rotate_left
    · have hC' : ((sn : Int) == H - less) = false := by simpa using hC
      have E2 : Hid (frB ps less ((f : Int), (q : Int), ll, sl) = false) := hid (by rw [E1.out, ← lenB_of LS.out, hC']; rfl)
      clear hC
      refine wp_region_quiet_below (by kernel_rfl) (by kernel_rfl) ?_
      repeat (go_big_quiet_step (first | (go_at_call 41; first | exact Calls.regrown_of (areNumbers_any _ _ _ ll _ ((HL.out.kept B2.out).kept (below_regrown _ _ _))) | exact Calls.regrown_of (areNumbers_any _ _ _ sl _ ((HS.out.kept B2.out).kept (below_regrown _ _ _))))))
      refine wpQuiet_nil ?_
      intro _ hw'
      obtain ⟨⟨dq, osq⟩, hw''⟩ := hw'
      subst hw''
      go_wp2_with fail
      go_ret
      exact ⟨ret_bool E2.out.symm, kt B2.out (below_regrown _ _ _)⟩
    have E3 : Hid (frB ps less ((f : Int), (q : Int), ll, sl) = (numsB ll && numsB sl)) := hid (by rw [E1.out, ← lenB_of LS.out, hC]; simp)
    have hC' : ((sn : Int) == H - less) = true := by simpa using hC
    clear hC E E1
    cases hD : numsB ll
    · have E2 : Hid (frB ps less ((f : Int), (q : Int), ll, sl) = false) := hid (by rw [E3.out, hD]; rfl)
      refine wp_region_quiet_below (by kernel_rfl) (by kernel_rfl) ?_
      repeat (go_big_quiet_step (first | (go_at_call 41; first | exact Calls.regrown_of (areNumbers_any _ _ _ ll _ ((HL.out.kept B2.out).kept (below_regrown _ _ _))) | exact Calls.regrown_of (areNumbers_any _ _ _ sl _ ((HS.out.kept B2.out).kept (below_regrown _ _ _))))))
      refine wpQuiet_nil ?_
      intro _ hw'
      obtain ⟨⟨dq, osq⟩, hw''⟩ := hw'
      subst hw''
      go_wp2_with fail
      go_ret
      exact ⟨ret_bool E2.out.symm, kt B2.out (below_regrown _ _ _)⟩
    · have E2 : Hid (frB ps less ((f : Int), (q : Int), ll, sl) = numsB sl) := hid (by rw [E3.out, hD]; rfl)
      refine wp_region_quiet_below (by kernel_rfl) (by kernel_rfl) ?_
      repeat (go_big_quiet_step (first | (go_at_call 41; first | exact Calls.regrown_of (areNumbers_any _ _ _ ll _ ((HL.out.kept B2.out).kept (below_regrown _ _ _))) | exact Calls.regrown_of (areNumbers_any _ _ _ sl _ ((HS.out.kept B2.out).kept (below_regrown _ _ _))))))
      refine wpQuiet_nil ?_
      intro _ hw'
      obtain ⟨⟨dq, osq⟩, hw''⟩ := hw'
      subst hw''
      go_wp2_with fail
      go_ret
      exact ⟨ret_bool E2.out.symm, kt B2.out (below_regrown _ _ _)⟩

set_option maxRecDepth 100000 in
set_option maxHeartbeats 4000000 in
theorem waitsFor_any (pa : Option Addr) (pn pc : Nat) (ha : Option Addr) (hn hc : Nat) (ps : List Fn) (x y : Int) (la : Option Addr) (ln lc : Nat) (ll : List Int) (sa : Option Addr) (sn sc : Nat) (sl : List Int) (called : Int) (w : World) (hp : Fns w pa pn pc ps) (hh : Hts w ha hn hc (htsAll ps)) (hv : verV ps = 0) (hl : Ints w la ln lc ll) (hs : Ints w sa sn sc sl) :
    Calls Tryz.prog 66 #[.agg #[.slice pa pn pc, .slice ha hn hc], .agg #[.int .i64 x, .int .i64 y, .slice la ln lc, .slice sa sn sc], .int .i64 called] w fun e w' => e = .returned (.bool (waitB ps (x, y, ll, sl) called)) ∧ Below w.heap.size w w' := by
  have HP := hid hp
  have HH := hid hh
  have HL := hid hl
  have HS := hid hs
  have HV := hid hv
  have LP := hid hp.len
  have hpr := hp.room
  have hpc := hp.cap
  clear hl hs hv hp hh
  cases hfr : frB ps 1 (x, y, ll, sl)
  · have E : Hid (waitB ps (x, y, ll, sl) called = false) := hid (by unfold waitB; rw [hfr]; rfl)
    go_enter Tryz.func66, Tryz.ntmps66
    go_wp2_with fail
    refine (mayBe_any _ _ _ _ _ _ ps x y _ _ _ ll _ _ _ sl 1 _ (HP.out.kept (by go_grown)) (HH.out.kept (by go_grown)) HV.out (HL.out.kept (by go_grown)) (HS.out.kept (by go_grown)) (by omega) (by omega)).mono ?_
    rintro e w1 ⟨rfl, b1⟩
    rw [hfr]
    have B : Hid (Below w.heap.size w w1) := hid (kt (by go_grown) b1)
    clear b1
    go_wp2_with fail
    go_ret
    exact ⟨ret_bool E.out.symm, B.out⟩
  obtain ⟨f, q, rfl, rfl, hf, hq, _, _, _⟩ := reached_in (frB_reached hfr)
  have hfn : f < pn := by rw [LP.out]; exact hf
  obtain ⟨b0, o0, fx, fy, fa, fn, fc, fl, rfl, e3, d0, d1, d2, i3⟩ := HP.out.at f hfn
  replace hq : q < fl.length := by rw [e3] at hq; exact hq
  have hvf := ver_fn HV.out hf e3
  have hq64 : q < 64 := by omega
  have LF := hid i3.len
  have hfr3 := i3.room
  have hfc3 := i3.cap
  have E : Hid (waitB ps ((f : Int), (q : Int), ll, sl) called = (reachedB ps (f : Int) ((q : Int) - 1) && decide (insAt fl ((q : Int) - 1).toNat = (14, called)))) := hid (by
    unfold waitB behindB callB
    rw [hfr]
    simp only [Bool.true_and, Int.toNat_natCast, e3])
  have HI := hid i3
  have D2 := hid d2
  have HF := hid hfr
  clear d0 d1 e3 d2 i3 hfr
  go_enter Tryz.func66, Tryz.ntmps66
  go_wp2_with fail
  refine (mayBe_any _ _ _ _ _ _ ps (f : Int) (q : Int) _ _ _ ll _ _ _ sl 1 _ (HP.out.kept (by go_grown)) (HH.out.kept (by go_grown)) HV.out (HL.out.kept (by go_grown)) (HS.out.kept (by go_grown)) (by omega) (by omega)).mono ?_
  rintro e w1 ⟨rfl, b1⟩
  rw [HF.out]
  have B : Hid (Below w.heap.size w w1) := hid (kt (by go_grown) b1)
  have p0 := kept_cell b1 (b := w.heap.size) (o := 0) (v := .slice (some ⟨b0, o0, none⟩) pn pc) (by simp [go_sem])
  have p1 := kept_cell b1 (b := w.heap.size) (o := 1) (v := .slice ha hn hc) (by simp [go_sem])
  have q0 := kept_cell b1 (b := w.heap.size + 1) (o := 0) (v := .int .i64 (f : Int)) (by simp [go_sem])
  clear b1
  go_wp2_with fail
  refine (isReached_any _ _ _ _ _ _ ps (f : Int) ((q : Int) - 1) _ (HH.out.kept B.out) HV.out).mono ?_
  rintro e w2 ⟨rfl, b2⟩
  have B2 := hid (kt B.out b2)
  cases hrb : reachedB ps (f : Int) ((q : Int) - 1)
  · have E2 : Hid (waitB ps ((f : Int), (q : Int), ll, sl) called = false) := hid (by rw [E.out, hrb]; rfl)
    clear b2
    go_wp2_with fail
    go_ret
    exact ⟨ret_bool E2.out.symm, B2.out⟩
  · have hh : 0 ≤ heightV ps (f : Int) ((q : Int) - 1) := by simpa [reachedB] using hrb
    obtain ⟨f2, m, hf2, hm, -, -, -, -, -⟩ := reached_in hh
    clear hf2
    obtain ⟨q', rfl⟩ : ∃ q', q = q' + 1 := ⟨q - 1, by omega⟩
    have hq' : q' < fn := by have := LF.out; omega
    obtain ⟨b7, o7, K, A, rfl, e7, c7, c8⟩ := (HI.out.kept B2.out).at q' hq'
    have E2 : Hid (waitB ps ((f : Int), ((q' + 1 : Nat) : Int), ll, sl) called = decide ((K, A) = (14, called))) := hid (by
      rw [E.out, hrb, Bool.true_and, show (((q' + 1 : Nat) : Int) - 1).toNat = q' by omega]
      unfold insAt
      rw [e7])
    have d2 := kept_cell B2.out D2.out
    replace p0 := kept_cell b2 p0
    replace p1 := kept_cell b2 p1
    replace q0 := kept_cell b2 q0
    clear b2 hrb hh hm e7
    by_cases hK : K = 14
    · subst hK
      by_cases hA : A = called
      · subst hA
        go_wp2_with fail
        go_ret
        exact ⟨ret_bool (by rw [E2.out]; simp), B2.out⟩
      · have hA' : (A == called) = false := by simpa using hA
        go_wp2_with fail
        go_ret
        exact ⟨ret_bool (by rw [E2.out]; simp [hA]), B2.out⟩
    · have hK' : (K == 14) = false := by simpa using hK
      go_wp2_with fail
      go_ret
      exact ⟨ret_bool (by rw [E2.out]; simp [hK]), B2.out⟩

theorem callAt_last {ps : List Fn} {fs : List Fr} {i : Nat} {f : Fr} (h : i + 1 = fs.length) (e : fs.getD i noFr = f) : callAt ps fs i = frB ps 0 f := by unfold callAt; rw [if_pos h, e]
theorem callAt_wait {ps : List Fn} {fs : List Fr} {i : Nat} {f : Fr} {x : Int} (h : ¬ i + 1 = fs.length) (e : fs.getD i noFr = f) (e' : (fs.getD (i + 1) noFr).1 = x) : callAt ps fs i = waitB ps f x := by unfold callAt; rw [if_neg h, e, e']
theorem calls_last {ps : List Fn} {fs : List Fr} {i : Nat} (h : i + 1 = fs.length) : (firstAt (fun i => !callAt ps fs i) (fs.length - i) i).isNone = callAt ps fs i := by
  rw [show fs.length - i = 0 + 1 by omega]
  cases hc : callAt ps fs i
  · rw [firstAt_hit (by simp [hc])]; rfl
  · rw [firstAt_step (by simp [hc])]; rfl
theorem calls_step {ps : List Fn} {fs : List Fr} {i : Nat} (h : i < fs.length) (hc : callAt ps fs i = true) : (firstAt (fun i => !callAt ps fs i) (fs.length - (i + 1)) (i + 1)).isNone = (firstAt (fun i => !callAt ps fs i) (fs.length - i) i).isNone := by
  rw [show fs.length - i = (fs.length - (i + 1)) + 1 by omega, firstAt_step (by simp [hc])]
theorem calls_bad {ps : List Fn} {fs : List Fr} {i : Nat} (h : i < fs.length) (hc : callAt ps fs i = false) : (firstAt (fun i => !callAt ps fs i) (fs.length - i) i).isNone = false := by
  rw [show fs.length - i = (fs.length - (i + 1)) + 1 by omega, firstAt_hit (by simp [hc])]; rfl

/-- A frame's four cells in a block. -/
structure FB (w : World) (b : Nat) (x y : Int) (u v : Value) : Prop where
  c0 : w.cell? ⟨b, 0, none⟩ = some (.int .i64 x)
  c1 : w.cell? ⟨b, 1, none⟩ = some (.int .i64 y)
  c2 : w.cell? ⟨b, 2, none⟩ = some u
  c3 : w.cell? ⟨b, 3, none⟩ = some v

set_option maxRecDepth 100000 in
set_option maxHeartbeats 4000000 in
theorem areCalls_any (pa : Option Addr) (pn pc : Nat) (ha : Option Addr) (hn hc : Nat) (ps : List Fn) (fa : Option Addr) (fn fc : Nat) (fs : List Fr) (w : World) (hp : Fns w pa pn pc ps) (hh : Hts w ha hn hc (htsAll ps)) (hv : verV ps = 0) (hf : Frs w fa fn fc fs) :
    Calls Tryz.prog 44 #[.agg #[.slice pa pn pc, .slice ha hn hc], .slice fa fn fc] w fun e w' => e = .returned (.bool (callsB ps fs)) ∧ Below w.heap.size w w' := by
  have HP := hid hp
  have HH := hid hh
  have HF := hid hf
  have HV := hid hv
  have L := hid hf.len
  have hfr := hf.room
  have hfc := hf.cap
  clear hv hp hh hf
  go_enter Tryz.func44, Tryz.ntmps44
  go_wp2_with fail
  go_loopw [13] (fun i wr => ∃ q : Nat, q ≤ fn ∧ i = .int .i64 q ∧ (firstAt (fun i => !callAt ps fs i) (fs.length - q) q).isNone = callsB ps fs ∧ wr.cell? ⟨w.heap.size, 0, none⟩ = some (.slice pa pn pc) ∧ wr.cell? ⟨w.heap.size, 1, none⟩ = some (.slice ha hn hc) ∧ Below w.heap.size w wr) (fun i _ => fn - (intOf i).toNat)
  case atStart => exact ⟨0, Nat.zero_le _, rfl, rfl, by simp [go_sem], by simp [go_sem], by go_grown⟩
  case round =>
    obtain ⟨q, hq, rfl, hc9, g0, g1, hb⟩ := hrel
    have HC := hid hc9
    clear hc9
    by_cases hlt : q < fn
    · obtain ⟨b0, o0, x, y, la, ln, lc, ll, sa, sn, sc, sl, ha', e0, c0, c1, c2, c3, i1, i2⟩ := (HF.out.kept hb).at q hlt
      subst ha'
      have hA : Below wr.heap.size wr (wr.alloc (.cells #[.int .i64 x, .int .i64 y, .slice la ln lc, .slice sa sn sc] 51)) := Below.alloc (Below.refl _ _) (Nat.le_refl _) _
      have A := hid hA
      have I1 := hid (i1.kept hA)
      have I2 := hid (i2.kept hA)
      have E0 := hid e0
      have BA := hid (kt hb hA)
      clear i1 i2 e0 hA
      by_cases hlast : q + 1 = fn
      · subst hlast
        have E : Hid (callsB ps fs = frB ps 0 (x, y, ll, sl)) := hid (by rw [← HC.out, calls_last L.out, callAt_last L.out E0.out])
        have k0 := kept_cell A.out g0
        have k1 := kept_cell A.out g1
        go_wp2_with fail
        refine (mayBe_any _ _ _ _ _ _ ps x y _ _ _ ll _ _ _ sl 0 _ (HP.out.kept BA.out) (HH.out.kept BA.out) HV.out I1.out I2.out (by omega) (by omega)).mono ?_
        rintro e w1 ⟨rfl, b1⟩
        go_wp2_with fail
        go_ret
        exact ⟨ret_bool E.out.symm, kt BA.out b1⟩
      · obtain ⟨b9, o9, x', y', la', ln', lc', ll', sa', sn', sc', sl', ha', e0', d0, _, _, _, _, _⟩ := (HF.out.kept hb).at (q + 1) (by omega)
        cases ha'
        have E : Hid (callAt ps fs q = waitB ps (x, y, ll, sl) x') := hid (callAt_wait (by have := L.out; omega) E0.out (by rw [e0']))
        have r0 := cell_regrown (kept_cell A.out g0)
        have r1 := cell_regrown (kept_cell A.out g1)
        have r2 := cell_regrown (kept_cell A.out d0)
        have s0 := cell_regrown (w := wr.alloc (.cells #[.int .i64 x, .int .i64 y, .slice la ln lc, .slice sa sn sc] 51)) (a := ⟨wr.heap.size, 0, none⟩) (v := .int .i64 x) (by simp [go_sem])
        have s1 := cell_regrown (w := wr.alloc (.cells #[.int .i64 x, .int .i64 y, .slice la ln lc, .slice sa sn sc] 51)) (a := ⟨wr.heap.size, 1, none⟩) (v := .int .i64 y) (by simp [go_sem])
        have s2 := cell_regrown (w := wr.alloc (.cells #[.int .i64 x, .int .i64 y, .slice la ln lc, .slice sa sn sc] 51)) (a := ⟨wr.heap.size, 2, none⟩) (v := .slice la ln lc) (by simp [go_sem])
        have s3 := cell_regrown (w := wr.alloc (.cells #[.int .i64 x, .int .i64 y, .slice la ln lc, .slice sa sn sc] 51)) (a := ⟨wr.heap.size, 3, none⟩) (v := .slice sa sn sc) (by simp [go_sem])
        have G := hid (And.intro g0 g1)
        clear g0 g1 d0 e0'
        cases hW : waitB ps (x, y, ll, sl) x'
        · have E2 : Hid (callsB ps fs = false) := hid (by rw [← HC.out]; exact calls_bad (by have := L.out; omega) (by rw [E.out, hW]))
          go_wp2_with fail
          refine wp_region_quiet_below (by kernel_rfl) (by kernel_rfl) ?_
          repeat (go_big_quiet_step (first | (go_at_call 66; exact Calls.regrown_of (waitsFor_any _ _ _ _ _ _ ps x y _ _ _ ll _ _ _ sl x' _ ((HP.out.kept BA.out).kept (below_regrown _ _ _)) ((HH.out.kept BA.out).kept (below_regrown _ _ _)) HV.out (I1.out.kept (below_regrown _ _ _)) (I2.out.kept (below_regrown _ _ _))))))
          refine wpQuiet_nil ?_
          intro _ hw'
          obtain ⟨⟨dq, osq⟩, hw''⟩ := hw'
          subst hw''
          go_wp2_with fail
          go_ret
          exact ⟨ret_bool E2.out.symm, kt BA.out (below_regrown _ _ _)⟩
        · have E2 : Hid (callAt ps fs q = true) := hid (by rw [E.out, hW])
          go_wp2_with fail
          refine wp_region_quiet_below (by kernel_rfl) (by kernel_rfl) ?_
          repeat (go_big_quiet_step (first | (go_at_call 66; exact Calls.regrown_of (waitsFor_any _ _ _ _ _ _ ps x y _ _ _ ll _ _ _ sl x' _ ((HP.out.kept BA.out).kept (below_regrown _ _ _)) ((HH.out.kept BA.out).kept (below_regrown _ _ _)) HV.out (I1.out.kept (below_regrown _ _ _)) (I2.out.kept (below_regrown _ _ _))))))
          refine wpQuiet_nil ?_
          intro _ hw'
          obtain ⟨⟨dq, osq⟩, hw''⟩ := hw'
          subst hw''
          go_wp2_with fail
          go_roundw
          case rel => exact ⟨q + 1, by omega, by go_num, by rw [calls_step (by have := L.out; omega) E2.out]; exact HC.out, kept_cell (below_regrown _ _ _) (kept_cell A.out G.out.1), kept_cell (below_regrown _ _ _) (kept_cell A.out G.out.2), kt BA.out (below_regrown _ _ _)⟩
          case measure => simp [intOf]; omega
    · have hqn : q = fn := by omega
      subst hqn
      have E : Hid (callsB ps fs = true) := hid (by rw [← HC.out, ← L.out, Nat.sub_self]; rfl)
      go_wp2_with fail
      go_ret
      exact ⟨ret_bool E.out.symm, hb⟩

set_option maxRecDepth 100000 in
set_option maxHeartbeats 4000000 in
theorem frameState_any (pa : Option Addr) (pn pc : Nat) (ps : List Fn) (fa : Option Addr) (fn fc : Nat) (fs : List Fr) (fu : Int) (oa : Option Addr) (on oc : Nat) (os : List Int) (dn vl : Int) (w : World) (hp : Fns w pa pn pc ps) (hf : Frs w fa fn fc fs) (ho : Ints w oa on oc os) (ld : Ld w) :
    Calls Tryz.prog 25 #[.agg #[.slice pa pn pc], .agg #[.slice fa fn fc, .int .i64 fu, .slice oa on oc, .int .i64 dn, .int .i64 vl]] w fun e w' => e = .returned (.bool (stateB ps (fs, fu, os, dn, vl))) ∧ Below w.heap.size w w' := by
  have HP := hid hp
  have HF := hid hf
  have HO := hid ho
  have LD := hid ld
  have hor := ho.room
  have hfr := hf.room
  have G : Hid (Below w.heap.size w ((w.alloc (.cells #[.slice pa pn pc] 24)).alloc (.cells #[.slice fa fn fc, .int .i64 fu, .slice oa on oc, .int .i64 dn, .int .i64 vl] 28))) := hid (by go_grown)
  have E : Hid (stateB ps (fs, fu, os, dn, vl) = (fuelB fu on && (numsB os && (outB dn vl fn && (decide (verV ps = 0) && callsB ps fs))))) := hid (by unfold stateB; simp only []; rw [← ho.len, ← hf.len])
  clear hf ho hp ld
  go_enter Tryz.func25, Tryz.ntmps25
  go_wp2_with fail
  refine (isInFuel_any _ _ _ fu _ on _ dn vl _ hor).mono ?_
  rintro e w1 ⟨rfl, b1⟩
  have B1 := hid (kt G.out b1)
  have p0 := kept_cell b1 (b := w.heap.size) (o := 0) (v := .slice pa pn pc) (by simp [go_sem])
  have q0 := kept_cell b1 (b := w.heap.size + 1) (o := 0) (v := .slice fa fn fc) (by simp [go_sem])
  have q1 := kept_cell b1 (b := w.heap.size + 1) (o := 1) (v := .int .i64 fu) (by simp [go_sem])
  have q2 := kept_cell b1 (b := w.heap.size + 1) (o := 2) (v := .slice oa on oc) (by simp [go_sem])
  have q3 := kept_cell b1 (b := w.heap.size + 1) (o := 3) (v := .int .i64 dn) (by simp [go_sem])
  have q4 := kept_cell b1 (b := w.heap.size + 1) (o := 4) (v := .int .i64 vl) (by simp [go_sem])
  clear b1
  cases h1 : fuelB fu on
  · have E2 : Hid (stateB ps (fs, fu, os, dn, vl) = false) := hid (by rw [E.out, h1]; rfl)
    go_wp2_with fail
    go_ret
    exact ⟨ret_bool E2.out.symm, B1.out⟩
  go_wp2_with fail
  refine (areNumbers_any _ _ _ os _ (HO.out.kept B1.out)).mono ?_
  rintro e w2 ⟨rfl, b2⟩
  have B2 := hid (kt B1.out b2)
  replace p0 := kept_cell b2 p0
  replace q0 := kept_cell b2 q0
  replace q1 := kept_cell b2 q1
  replace q2 := kept_cell b2 q2
  replace q3 := kept_cell b2 q3
  replace q4 := kept_cell b2 q4
  clear b2
  cases h2 : numsB os
  · have E2 : Hid (stateB ps (fs, fu, os, dn, vl) = false) := hid (by rw [E.out, h1, h2]; rfl)
    go_wp2_with fail
    go_ret
    exact ⟨ret_bool E2.out.symm, B2.out⟩
  go_wp2_with fail
  refine (isOutcome_any _ fn _ fu _ on _ dn vl _ hfr).mono ?_
  rintro e w3 ⟨rfl, b3⟩
  have B3 := hid (kt B2.out b3)
  replace p0 := kept_cell b3 p0
  replace q0 := kept_cell b3 q0
  clear b3 q1 q2 q3 q4
  cases h3 : outB dn vl fn
  · have E2 : Hid (stateB ps (fs, fu, os, dn, vl) = false) := hid (by rw [E.out, h1, h2, h3]; rfl)
    go_wp2_with fail
    go_ret
    exact ⟨ret_bool E2.out.symm, B3.out⟩
  have E3 : Hid (stateB ps (fs, fu, os, dn, vl) = (decide (verV ps = 0) && callsB ps fs)) := hid (by rw [E.out, h1, h2, h3]; rfl)
  go_wp2_with fail
  refine (checkerOf_any _ _ _ ps _ (HP.out.kept B3.out) (LD.out.up B3.out)).mono ?_
  rintro e w4 ⟨b4, ⟨hv, ha, hn, hc, rfl, h4⟩ | ⟨hv, u1, u2, u3, u4, u5, u6, rfl⟩⟩
  · have hA : Below w4.heap.size w4 (w4.alloc (.cells #[.slice pa pn pc, .slice ha hn hc] 82)) := Below.alloc (Below.refl _ _) (Nat.le_refl _) _
    replace q0 := kept_cell hA (kept_cell b4 q0)
    have B := hid (kt (kt B3.out b4) hA)
    have H4 := hid (h4.kept hA)
    have HV := hid hv
    have E2 : Hid (stateB ps (fs, fu, os, dn, vl) = callsB ps fs) := hid (by rw [E3.out, hv]; rfl)
    clear b4 h4 hv hA p0
    go_wp2_with fail
    refine (areCalls_any _ _ _ _ _ _ ps _ _ _ fs _ (HP.out.kept B.out) H4.out HV.out (HF.out.kept B.out)).mono ?_
    rintro e w5 ⟨rfl, b5⟩
    go_wp2_with fail
    go_ret
    exact ⟨ret_bool E2.out.symm, kt B.out b5⟩
  · have E2 : Hid (stateB ps (fs, fu, os, dn, vl) = false) := hid (by rw [E3.out, decide_eq_false hv]; rfl)
    have B := hid (kt B3.out b4)
    clear b4 hv
    go_wp2_with fail
    go_ret
    exact ⟨ret_bool E2.out.symm, kt B.out (Below.alloc (Below.refl _ _) (Nat.le_refl _) _)⟩

end Go.Proofs.YtcngmkbgcfhmdaaGreatDoor

namespace Go.Proofs.YtcngmkbgcfhmdaaGreatDoor
open Go.RowKit
set_option linter.unusedVariables false

/-- A state that is zero, in a block of its own. -/
structure Z5 (w : World) (b : Nat) : Prop where
  c0 : w.cell? ⟨b, 0, none⟩ = some (.slice none 0 0)
  c1 : w.cell? ⟨b, 1, none⟩ = some (.int .i64 0)
  c2 : w.cell? ⟨b, 2, none⟩ = some (.slice none 0 0)
  c3 : w.cell? ⟨b, 3, none⟩ = some (.int .i64 0)
  c4 : w.cell? ⟨b, 4, none⟩ = some (.int .i64 0)
  f0 : w.frozen? ⟨b, 0, none⟩ = false
  f1 : w.frozen? ⟨b, 1, none⟩ = false
  f2 : w.frozen? ⟨b, 2, none⟩ = false
  f3 : w.frozen? ⟨b, 3, none⟩ = false
  f4 : w.frozen? ⟨b, 4, none⟩ = false
theorem Z5.kept {w w' : World} {b : Nat} (h : Z5 w b) (hb : Below w.heap.size w w') : Z5 w' b :=
  ⟨kept_cell hb h.c0, kept_cell hb h.c1, kept_cell hb h.c2, kept_cell hb h.c3, kept_cell hb h.c4, by rw [hb.frozen (lt_of_cell h.c0)]; exact h.f0, by rw [hb.frozen (lt_of_cell h.c1)]; exact h.f1,
    by rw [hb.frozen (lt_of_cell h.c2)]; exact h.f2, by rw [hb.frozen (lt_of_cell h.c3)]; exact h.f3, by rw [hb.frozen (lt_of_cell h.c4)]; exact h.f4⟩
theorem below5 {B : Nat} {w u : World} {b : Nat} (h : Below B w u) (hb : B ≤ b) (v0 v1 v2 v3 v4 : Value) : Below B w (((((u.setCell ⟨b, 0, none⟩ v0).setCell ⟨b, 1, none⟩ v1).setCell ⟨b, 2, none⟩ v2).setCell ⟨b, 3, none⟩ v3).setCell ⟨b, 4, none⟩ v4) :=
  ((((h.setCell (p := ⟨b, 0, none⟩) hb v0).setCell (p := ⟨b, 1, none⟩) hb v1).setCell (p := ⟨b, 2, none⟩) hb v2).setCell (p := ⟨b, 3, none⟩) hb v3).setCell (p := ⟨b, 4, none⟩) hb v4
theorem OwnFrs.set5 {e f : Nat} {u : World} {base b : Nat} {v : Value} {l : List Fr} (h : OwnFrs e f u base v l) (hb : b < base) (v0 v1 v2 v3 v4 : Value) : OwnFrs e f (((((u.setCell ⟨b, 0, none⟩ v0).setCell ⟨b, 1, none⟩ v1).setCell ⟨b, 2, none⟩ v2).setCell ⟨b, 3, none⟩ v3).setCell ⟨b, 4, none⟩ v4) base v l :=
  ((((h.set ⟨b, 0, none⟩ v0 hb).set ⟨b, 1, none⟩ v1 hb).set ⟨b, 2, none⟩ v2 hb).set ⟨b, 3, none⟩ v3 hb).set ⟨b, 4, none⟩ v4 hb
/-- One frame in a row of its own. -/
theorem ownFrs_one {e f : Nat} {w : World} {base : Nat} {lv sv : Value} {x y : Int} {ll sl : List Int} (hb : base ≤ w.heap.size) (hl : w.ownsRow base e 1 lv ll.length (ints ll)) (hll : ll.length * 8 ≤ 140737488351232) (hs : w.ownsRow base e 1 sv sl.length (ints sl)) (hsl : sl.length * 8 ≤ 140737488351232) :
    OwnFrs e f (w.alloc (.cells #[.int .i64 x, .int .i64 y, lv, sv] f)) base (.slice (some ⟨w.heap.size, 0, none⟩) 1 1) [(x, y, ll, sl)] := by
  have A : Below w.heap.size w (w.alloc (.cells #[.int .i64 x, .int .i64 y, lv, sv] f)) := Below.alloc (Below.refl _ _) (Nat.le_refl _) _
  refine ⟨[(x, y, lv, sv)], rfl, ?_, fun i hi => ?_⟩
  · exact World.ownsRow_lit (e := f) (size := 4) w #[.int .i64 x, .int .i64 y, lv, sv] 1 hb (by unfold maxLen; omega) rfl
  · have h0 : i = 0 := by simpa using hi
    subst h0
    exact ⟨rfl, rfl, ⟨hll, owns_kept hl A⟩, hsl, owns_kept hs A⟩

theorem freshL_len (k : Nat) (args : List Int) : (freshL k args).length = k := by simp [freshL]
/-- What copy leaves: the arguments, then what was there. -/
theorem splice_fresh (k : Nat) (args : List Int) (h : args.length ≤ k) : splice (ints (List.replicate k 0)) 0 (ints args) = ints (freshL k args) := by
  have e : (freshL k args) = args ++ List.replicate (k - args.length) 0 := by
    unfold freshL
    rw [List.take_append, List.take_of_length_le h, List.take_replicate, Nat.min_eq_left (by omega)]
  rw [e]
  simp [splice, ints]

theorem made_ints (n : Nat) : madeCells #[.int .i64 0] n = (ints (List.replicate n 0)).toArray := by
  rw [← ints_rep, ← toList_madeCells_one]
theorem owns_full {w : World} {base e g n : Nat} {xs : List Int} (hl : xs.length = n) (hb : base ≤ g) (hm : n ≤ maxLen) (h : w.heap[g]? = some (.cells (ints xs).toArray e (0, 0))) : w.ownsRow base e 1 (.slice (some ⟨g, 0, none⟩) n n) xs.length (ints xs) := by
  subst hl
  refine ⟨by simp [ints_len], .inr ⟨g, xs.length, (ints xs).toArray, rfl, hb, h, Nat.le_refl _, hm, by simp [ints_len], ?_⟩⟩
  simp [ints_len, List.take_of_length_le]
/-- The cells of a row that came in, one by one. -/
theorem ints_src {w : World} {a : Option Addr} {n c : Nat} {l : List Int} (h : Ints w a n c l) : 0 < (ints l).length → ∃ ad, a = some ad ∧ ∀ j v, (ints l)[j]? = some v → w.cell? (ad.add j) = some v := by
  intro h0
  rw [ints_len] at h0
  obtain ⟨b, o, ha, hr⟩ := h.row (by rw [h.len]; exact h0)
  refine ⟨_, ha, fun j v hv => ?_⟩
  have hj : j < l.length := by
    rcases Nat.lt_or_ge j l.length with h | h
    · exact h
    · rw [List.getElem?_eq_none (by rw [ints_len]; exact h)] at hv; cases hv
  rw [ints_at l j hj] at hv
  cases hv
  have := hr j (by rw [h.len]; exact hj)
  rw [show (⟨b, o, none⟩ : Addr).add j = ⟨b, o + j, none⟩ by simp [Addr.add]]
  exact this

theorem startB_bad {ps : List Fn} {args : List Int} {fuel : Int} (h : startB ps args fuel = false) : startV ps args fuel = noSt ∧ startE ps args fuel = 600 := by unfold startV startE; rw [h]; exact ⟨rfl, rfl⟩

set_option maxRecDepth 100000 in
set_option maxHeartbeats 4000000 in
theorem frameStart_any (pa : Option Addr) (pn pc : Nat) (ps : List Fn) (aa : Option Addr) (an ac : Nat) (args : List Int) (fuel : Int) (w : World) (hp : Fns w pa pn pc ps) (ha : Ints w aa an ac args) (ld : Ld w) :
    Calls Tryz.prog 37 #[.agg #[.slice pa pn pc], .slice aa an ac, .int .i64 fuel] w fun e w' => ∃ v, e = .returned (.tuple #[.agg #[v, .int .i64 (startV ps args fuel).2.1, .slice none 0 0, .int .i64 0, .int .i64 0], .int .i64 (startE ps args fuel)]) ∧ OwnFrs 3 51 w' w.heap.size v (startV ps args fuel).1 ∧ Below w.heap.size w w' := by
  have HP := hid hp
  have HA := hid ha
  have LD := hid ld
  have LA := hid ha.len
  have LP := hid hp.len
  have har := ha.room
  have hac := ha.cap
  have hpr := hp.room
  have hpc := hp.cap
  clear hp ha ld
  generalize hV : startV ps args fuel = V
  generalize hE : startE ps args fuel = EE
  have HSV := hid hV
  have HSE := hid hE
  clear hV hE
  have Z0 : Hid (Z5 ((w.alloc (.cells #[.slice pa pn pc] 24)).alloc (.cells #[.slice none 0 0, .int .i64 0, .slice none 0 0, .int .i64 0, .int .i64 0] 28)) (w.heap.size + 1)) := hid ⟨by simp [go_sem], by simp [go_sem], by simp [go_sem], by simp [go_sem], by simp [go_sem], by simp [go_sem], by simp [go_sem], by simp [go_sem], by simp [go_sem], by simp [go_sem]⟩
  have G : Hid (Below w.heap.size w ((w.alloc (.cells #[.slice pa pn pc] 24)).alloc (.cells #[.slice none 0 0, .int .i64 0, .slice none 0 0, .int .i64 0, .int .i64 0] 28))) := hid (by go_grown)
  by_cases hf : 0 ≤ fuel ∧ fuel ≤ 100000
  rotate_left
  · have E : Hid (startV ps args fuel = noSt ∧ startE ps args fuel = 600) := hid (startB_bad (by unfold startB; rw [decide_eq_false hf]; rfl))
    obtain rfl : V = noSt := by rw [← HSV.out, E.out.1]
    obtain rfl : EE = 600 := by rw [← HSE.out, E.out.2]
    have hf' : fuel < 0 ∨ ¬ fuel < 0 ∧ 100000 < fuel := by omega
    rcases hf' with hf' | ⟨hf1, hf'⟩
    all_goals
      go_enter Tryz.func37, Tryz.ntmps37
      go_wp2_with fail
      refine bodyPost_ret (v := .tuple #[.agg #[.slice none 0 0, .int .i64 0, .slice none 0 0, .int .i64 0, .int .i64 0], .int .i64 600]) (by simp [results, Tryz.results37, go_sem]) rfl ⟨_, rfl, OwnFrs.nil _ _ _ _, ?_⟩
      go_grown
  obtain ⟨hf0, hf1⟩ := hf
  go_enter Tryz.func37, Tryz.ntmps37
  go_wp2_with fail
  refine (verProgram _ _ _ ps _ (HP.out.kept G.out) (LD.out.up G.out)).mono ?_
  rintro e w1 ⟨rfl, b1⟩
  have B1 := hid (kt G.out b1)
  have Z1 := hid (Z0.out.kept b1)
  have p0 := kept_cell b1 (b := w.heap.size) (o := 0) (v := .slice pa pn pc) (by simp [go_sem])
  clear b1
  by_cases hv : verV ps = 0
  rotate_left
  · have E : Hid (startV ps args fuel = noSt ∧ startE ps args fuel = 600) := hid (startB_bad (by unfold startB; rw [decide_eq_false hv]; simp))
    obtain rfl : V = noSt := by rw [← HSV.out, E.out.1]
    obtain rfl : EE = 600 := by rw [← HSE.out, E.out.2]
    have hv' : (verV ps != 0) = true := by simp [hv]
    obtain ⟨c0, c1, c2, c3, c4, f0, f1, f2, f3, f4⟩ := Z1.out
    clear hv
    go_wp2_with fail
    refine bodyPost_ret (v := .tuple #[.agg #[.slice none 0 0, .int .i64 0, .slice none 0 0, .int .i64 0, .int .i64 0], .int .i64 600]) (by simp [results, Tryz.results37, go_sem, c0, c1, c2, c3, c4]) rfl ⟨_, rfl, OwnFrs.nil _ _ _ _, below5 B1.out (by omega) _ _ _ _ _⟩
  rw [hv]
  have hps := ver_some hv
  have hpn : 0 < pn := by rw [LP.out]; omega
  obtain ⟨b0, o0, fx, fy, fa, fn, fc, fl, rfl, e3, d0, d1, d2, i3⟩ := (HP.out.kept B1.out).at 0 hpn
  have hvf := ver_fn hv (by omega) e3
  have ES : Hid (startB ps args fuel = (lenB args fx && numsB args)) := hid (by unfold startB; rw [decide_eq_true ⟨hf0, hf1⟩, decide_eq_true hv, e3]; rfl)
  obtain ⟨nl, rfl⟩ : ∃ nl : Nat, fy = nl := ⟨fy.toNat, by omega⟩
  have hA : Below w1.heap.size w1 (w1.alloc (.cells #[.int .i64 fx, .int .i64 (nl : Int), .slice fa fn fc] 66)) := Below.alloc (Below.refl _ _) (Nat.le_refl _) _
  have B2 := hid (kt B1.out hA)
  have Z2 := hid (Z1.out.kept hA)
  have E3 := hid e3
  have HV := hid hv
  simp only [Nat.zero_mul, Nat.add_zero] at d0 d1 d2
  clear hA i3 e3 hv
  by_cases hl : (an : Int) = fx
  rotate_left
  · have hl' : ((an : Int) != fx) = true := by simpa using hl
    have E : Hid (startV ps args fuel = noSt ∧ startE ps args fuel = 600) := hid (startB_bad (by rw [ES.out]; unfold lenB; rw [← LA.out, decide_eq_false hl]; rfl))
    obtain rfl : V = noSt := by rw [← HSV.out, E.out.1]
    obtain rfl : EE = 600 := by rw [← HSE.out, E.out.2]
    obtain ⟨c0, c1, c2, c3, c4, f0, f1, f2, f3, f4⟩ := Z2.out
    clear hl
    go_wp2_with fail
    refine bodyPost_ret (v := .tuple #[.agg #[.slice none 0 0, .int .i64 0, .slice none 0 0, .int .i64 0, .int .i64 0], .int .i64 600]) (by simp [results, Tryz.results37, go_sem, c0, c1, c2, c3, c4]) rfl ⟨_, rfl, OwnFrs.nil _ _ _ _, below5 B2.out (by omega) _ _ _ _ _⟩
  have hl' : ((an : Int) != fx) = false := by simpa using hl
  go_wp2_with fail
  refine (areNumbers_any _ _ _ args _ (HA.out.kept B2.out)).mono ?_
  rintro e w3 ⟨rfl, b3⟩
  have B3 := hid (kt B2.out b3)
  have Z3 := hid (Z2.out.kept b3)
  have s1 := kept_cell b3 (b := w1.heap.size) (o := 1) (v := .int .i64 (nl : Int)) (by simp [go_sem])
  clear b3 d0 d1 d2 p0
  cases hn : numsB args
  · have E : Hid (startV ps args fuel = noSt ∧ startE ps args fuel = 600) := hid (startB_bad (by rw [ES.out, hn]; simp))
    obtain rfl : V = noSt := by rw [← HSV.out, E.out.1]
    obtain rfl : EE = 600 := by rw [← HSE.out, E.out.2]
    obtain ⟨c0, c1, c2, c3, c4, f0, f1, f2, f3, f4⟩ := Z3.out
    go_wp2_with fail
    refine bodyPost_ret (v := .tuple #[.agg #[.slice none 0 0, .int .i64 0, .slice none 0 0, .int .i64 0, .int .i64 0], .int .i64 600]) (by simp [results, Tryz.results37, go_sem, c0, c1, c2, c3, c4]) rfl ⟨_, rfl, OwnFrs.nil _ _ _ _, below5 B3.out (by omega) _ _ _ _ _⟩
  have ESt : Hid (startB ps args fuel = true) := hid (by rw [ES.out, hn]; unfold lenB; rw [← LA.out, decide_eq_true hl]; rfl)
  obtain rfl : V = ([(0, 0, freshL nl args, [])], fuel, [], 0, 0) := by rw [← HSV.out]; unfold startV; rw [if_pos ESt.out, E3.out]; rfl
  obtain rfl : EE = 0 := by rw [← HSE.out]; unfold startE; rw [if_pos ESt.out]
  have han : an ≤ nl := by omega
  have hA4 : Below w3.heap.size w3 (w3.alloc (.cells (madeCells #[.int .i64 0] nl) 3)) := Below.alloc (Below.refl _ _) (Nat.le_refl _) _
  have A4 := hid hA4
  have HG : Hid ((w3.alloc (.cells (madeCells #[.int .i64 0] nl) 3)).heap[w3.heap.size]? = some (.cells (ints (List.replicate nl 0)).toArray 3 (0, 0))) := hid (by rw [heap_alloc_new, made_ints])
  have HS := hid (ints_src ((HA.out.kept B3.out).kept hA4))
  have hmk := run_make_row' (P := Tryz.prog) 26 3 (.int .i64 0) 8 Tryz.underlying26 Tryz.infoInt rfl .i64 .i64 nl (by omega) (by omega)
  have hcl : Hid ((ints args).length = Nat.min an nl) := hid (by rw [ints_len, ← LA.out]; exact (Nat.min_eq_left han).symm)
  have hcf : Hid (0 + (ints args).length ≤ (ints (List.replicate nl 0)).length) := hid (by rw [ints_len, ints_len, ← LA.out]; simp; exact han)
  have SF : Hid (splice (ints (List.replicate nl 0)) 0 (ints args) = ints (freshL nl args)) := hid (splice_fresh nl args (by rw [← LA.out]; exact han))
  have hs3 : w.heap.size + 1 < w3.heap.size := lt_of_cell Z3.out.c0
  clear hA4 hl hl'
  go_wp2_with ((refine wpList_copy_splice rfl _ _ _ _ rfl 3 Tryz.underlying26 (by kernel_rfl) _ _ _ _ _ _ rfl rfl w3.heap.size 0 (ints (List.replicate nl 0)) 3 HG.out (ints args) hcl.out (fun h0 => ⟨rfl, HS.out h0⟩) hcf.out (ints_one args) w3.heap.size w3 A4.out (Nat.le_refl _) ?_; intro w5 hg5 hb5; have hA6 : Below w5.heap.size w5 (w5.alloc (.cells #[.int .i64 0, .int .i64 0, .slice (some ⟨w3.heap.size, 0, none⟩) nl nl, .slice none 0 0] 51)) := Below.alloc (Below.refl _ _) (Nat.le_refl _) _; have Z6 := (Z3.out.kept hb5).kept hA6; have B6 := hid (And.intro hb5 hA6); clear hb5 hA6; obtain ⟨c0, c1, c2, c3, c4, f0, f1, f2, f3, f4⟩ := Z6))
  have hs5 := B6.out.1.size
  have hlx : w.heap.size + 2 ≤ w3.heap.size := by omega
  have o5 : w5.ownsRow (w.heap.size + 2) 3 1 (.slice (some ⟨w3.heap.size, 0, none⟩) nl nl) (freshL nl args).length (ints (freshL nl args)) := owns_full (freshL_len nl args) hlx (by unfold maxLen; omega) (by rw [← SF.out]; exact hg5.out)
  have O6 : OwnFrs 3 51 (w5.alloc (.cells #[.int .i64 0, .int .i64 0, .slice (some ⟨w3.heap.size, 0, none⟩) nl nl, .slice none 0 0] 51)) (w.heap.size + 2) (.slice (some ⟨w5.heap.size, 0, none⟩) 1 1) [(0, 0, freshL nl args, [])] := ownFrs_one (by omega) o5 (by rw [freshL_len]; omega) (World.ownsRow_nil _ _ _ _) (by simp)
  refine bodyPost_ret (v := .tuple #[.agg #[.slice (some ⟨w5.heap.size, 0, none⟩) 1 1, .int .i64 fuel, .slice none 0 0, .int .i64 0, .int .i64 0], .int .i64 0]) (by simp [results, Tryz.results37, go_sem, c0, c1, c2, c3, c4]) rfl ⟨_, rfl, (O6.set5 (by omega) _ _ _ _ _).base (by omega), below5 (kt (kt B3.out B6.out.1) B6.out.2) (by omega) _ _ _ _ _⟩

end Go.Proofs.YtcngmkbgcfhmdaaGreatDoor

namespace Go.Proofs.YtcngmkbgcfhmdaaGreatDoor
open Go.RowKit
set_option linter.unusedVariables false

/-- 'append([]int{}, x...)'. -/
theorem wpList_copyI {ops : Array Oper} {rest : List Oper} {o : Oper} {a : Act} {Q : Exit → Act → World → Prop} (w0 w : World) (hgd : o.guard = none) (s x : Operand)
    (ho : o.op = .call { callee := .builtin .append, args := #[s, x], argTypes := #[26, 26] }) (hw : w = w0.alloc (.cells #[] 3)) (H : Nat) (hH : w0.heap.size = H) (hs : a.eval s = .slice (some ⟨H, 0, none⟩) 0 0)
    (sa : Option Addr) (sn sc : Nat) (l : List Int) (hx : a.eval x = .slice sa sn sc) (hi : Ints w0 sa sn sc l)
    (h : ∀ a' n' c' w', w'.ownsRow H 3 1 (.slice a' n' c') l.length (ints l) → Below H w0 w' → wpList Tryz.prog ops Q rest (a.put o.dst (.slice a' n' c')) w') : wpList Tryz.prog ops Q (o :: rest) a w := by
  subst hw
  subst hH
  obtain ⟨i0, hinf, hz0, hz1, hz2⟩ := info_parts Tryz.infoInt
  have hown0 : (w0.alloc (.cells #[] 3)).ownsRow w0.heap.size 3 1 (.slice (some ⟨w0.heap.size, 0, none⟩) 0 0) 0 [] := World.ownsRow_lit w0 #[] 0 (Nat.le_refl _) (by simp [maxLen]) rfl
  have hA : Below w0.heap.size w0 (w0.alloc (.cells #[] 3)) := Below.alloc (Below.refl _ _) (Nat.le_refl _) _
  cases sa with
  | none =>
    obtain ⟨rfl, rfl⟩ := hi.nilc rfl
    obtain rfl : l = [] := List.length_eq_zero_iff.1 hi.len.symm
    exact wpList_append_own_none hgd s x 26 ho w0.heap.size 3 i0 1 Tryz.underlying26 hinf _ 0 [] hs hown0 hx (h _ _ _ _ hown0 hA)
  | some ad =>
    have hr := hi.room
    refine wpList_append_own _ hgd s x 26 ho w0.heap.size 3 i0 (.int .i64 0) 1 8 Tryz.underlying26 hinf hz0 hz1 hz2 rfl (by decide) _ 0 [] hs hown0 ad sn sc (ints l) hx (by rw [ints_len, hi.len, Nat.mul_one]) ?_ (ints_one l) (by unfold maxLen; omega) (by omega) (by simp) ?_
    · intro j u hu
      have h0 : 0 < (ints l).length := by
        rcases Nat.eq_zero_or_pos (ints l).length with h0 | h0
        · rw [List.getElem?_eq_none (by omega)] at hu; cases hu
        · exact h0
      obtain ⟨ad', e, hc⟩ := ints_src (hi.kept hA) h0
      cases e
      exact hc j u hu
    · intro v' w' ho' hg _
      simp only [Nat.zero_add, List.nil_append] at ho'
      rw [hi.len] at ho'
      have hb : Below w0.heap.size w0 w' := Below.grown hA hg (by simp) (by intro k hk; cases hk; exact Nat.le_refl _)
      obtain ⟨a', n', c', rfl, _⟩ := ints_of_owns ho' (by rw [← hi.len]; exact hr)
      exact h a' n' c' w' ho' hb

/-- A frame's four cells in a block of its own, the last two to be written. -/
structure FX (w : World) (F : Nat) (x y : Int) (u v : Value) : Prop where
  c0 : w.cell? ⟨F, 0, none⟩ = some (.int .i64 x)
  c1 : w.cell? ⟨F, 1, none⟩ = some (.int .i64 y)
  c2 : w.cell? ⟨F, 2, none⟩ = some u
  c3 : w.cell? ⟨F, 3, none⟩ = some v
  f2 : w.frozen? ⟨F, 2, none⟩ = false
  f3 : w.frozen? ⟨F, 3, none⟩ = false
theorem FX.kept {w w' : World} {F : Nat} {x y : Int} {u v : Value} (h : FX w F x y u v) (hb : Below w.heap.size w w') : FX w' F x y u v :=
  ⟨kept_cell hb h.c0, kept_cell hb h.c1, kept_cell hb h.c2, kept_cell hb h.c3, by rw [hb.frozen (lt_of_cell h.c2)]; exact h.f2, by rw [hb.frozen (lt_of_cell h.c3)]; exact h.f3⟩
theorem FX.set2 {w : World} {F : Nat} {x y : Int} {u v : Value} (h : FX w F x y u v) (u' : Value) : FX (w.setCell ⟨F, 2, none⟩ u') F x y u' v :=
  ⟨by rw [World.cell?_setCell_other _ _ _ _ (by simp)]; exact h.c0, by rw [World.cell?_setCell_other _ _ _ _ (by simp)]; exact h.c1, World.cell?_setCell_same _ _ _ h.c2, by rw [World.cell?_setCell_other _ _ _ _ (by simp)]; exact h.c3, by simp [h.f2], by simp [h.f3]⟩
theorem FX.set3 {w : World} {F : Nat} {x y : Int} {u v : Value} (h : FX w F x y u v) (v' : Value) : FX (w.setCell ⟨F, 3, none⟩ v') F x y u v' :=
  ⟨by rw [World.cell?_setCell_other _ _ _ _ (by simp)]; exact h.c0, by rw [World.cell?_setCell_other _ _ _ _ (by simp)]; exact h.c1, by rw [World.cell?_setCell_other _ _ _ _ (by simp)]; exact h.c2, World.cell?_setCell_same _ _ _ h.c3, by simp [h.f2], by simp [h.f3]⟩

/-- A state's five cells in a block, its frames and its prints to be written. -/
structure SX (w : World) (b : Nat) (u : Value) (fu : Int) (o : Value) (dn vl : Int) : Prop where
  c0 : w.cell? ⟨b, 0, none⟩ = some u
  c1 : w.cell? ⟨b, 1, none⟩ = some (.int .i64 fu)
  c2 : w.cell? ⟨b, 2, none⟩ = some o
  c3 : w.cell? ⟨b, 3, none⟩ = some (.int .i64 dn)
  c4 : w.cell? ⟨b, 4, none⟩ = some (.int .i64 vl)
  f0 : w.frozen? ⟨b, 0, none⟩ = false
  f2 : w.frozen? ⟨b, 2, none⟩ = false
theorem SX.frm {S : Nat → Prop} {w w' : World} {b : Nat} {u o : Value} {fu dn vl : Int} (h : SX w b u fu o dn vl) (hf : Frm S w w') (hb : ¬ S b) : SX w' b u fu o dn vl :=
  ⟨hf.cell h.c0 hb, hf.cell h.c1 hb, hf.cell h.c2 hb, hf.cell h.c3 hb, hf.cell h.c4 hb, hf.free h.c0 h.f0 hb, hf.free h.c2 h.f2 hb⟩
theorem SX.kept {w w' : World} {b : Nat} {u o : Value} {fu dn vl : Int} (h : SX w b u fu o dn vl) (hb : Below w.heap.size w w') : SX w' b u fu o dn vl := h.frm (Frm.of_below (S := fun _ => False) hb) (fun k => k)
theorem SX.set0 {w : World} {b : Nat} {u o : Value} {fu dn vl : Int} (h : SX w b u fu o dn vl) (u' : Value) : SX (w.setCell ⟨b, 0, none⟩ u') b u' fu o dn vl :=
  ⟨World.cell?_setCell_same _ _ _ h.c0, by rw [World.cell?_setCell_other _ _ _ _ (by simp)]; exact h.c1, by rw [World.cell?_setCell_other _ _ _ _ (by simp)]; exact h.c2, by rw [World.cell?_setCell_other _ _ _ _ (by simp)]; exact h.c3, by rw [World.cell?_setCell_other _ _ _ _ (by simp)]; exact h.c4, by simp [h.f0], by simp [h.f2]⟩
theorem SX.set2 {w : World} {b : Nat} {u o : Value} {fu dn vl : Int} (h : SX w b u fu o dn vl) (o' : Value) : SX (w.setCell ⟨b, 2, none⟩ o') b u fu o' dn vl :=
  ⟨by rw [World.cell?_setCell_other _ _ _ _ (by simp)]; exact h.c0, by rw [World.cell?_setCell_other _ _ _ _ (by simp)]; exact h.c1, World.cell?_setCell_same _ _ _ h.c2, by rw [World.cell?_setCell_other _ _ _ _ (by simp)]; exact h.c3, by rw [World.cell?_setCell_other _ _ _ _ (by simp)]; exact h.c4, by simp [h.f0], by simp [h.f2]⟩
theorem Z5.frm {S : Nat → Prop} {w w' : World} {b : Nat} (h : Z5 w b) (hf : Frm S w w') (hb : ¬ S b) : Z5 w' b :=
  ⟨hf.cell h.c0 hb, hf.cell h.c1 hb, hf.cell h.c2 hb, hf.cell h.c3 hb, hf.cell h.c4 hb, hf.free h.c0 h.f0 hb, hf.free h.c1 h.f1 hb, hf.free h.c2 h.f2 hb, hf.free h.c3 h.f3 hb, hf.free h.c4 h.f4 hb⟩

theorem Tryz.infoFrame : (Tryz.prog.info? 51).map (fun i => (i.zero, i.size, i.bytes)) = some (some (.agg #[.int .i64 0, .int .i64 0, .slice none 0 0, .slice none 0 0]), 4, 64) := by kernel_rfl

set_option maxRecDepth 100000 in
set_option maxHeartbeats 8000000 in
theorem copyState_any (fa : Option Addr) (fn fc : Nat) (fs : List Fr) (fu : Int) (oa : Option Addr) (on oc : Nat) (os : List Int) (dn vl : Int) (w : World) (hf : Frs w fa fn fc fs) (ho : Ints w oa on oc os) :
    Calls Tryz.prog 7 #[.agg #[.slice fa fn fc, .int .i64 fu, .slice oa on oc, .int .i64 dn, .int .i64 vl]] w fun e w' => ∃ v oa' on' oc', e = .returned (.agg #[v, .int .i64 fu, .slice oa' on' oc', .int .i64 dn, .int .i64 vl]) ∧ OwnFrs 3 51 w' (w.heap.size + 3) v fs ∧ w'.ownsRow (w.heap.size + 3) 3 1 (.slice oa' on' oc') os.length (ints os) ∧ Below w.heap.size w w' := by
  obtain ⟨i0, hi, hz0, hz1, hz2⟩ := info_parts Tryz.infoFrame
  have L := hid hf.len
  have hr := hf.room
  have hcp := hf.cap
  have HF := hid hf
  have HO := hid ho
  clear hf ho
  have W3 : Hid (∃ w3 : World, w3 = ((w.alloc (.cells #[.slice fa fn fc, .int .i64 fu, .slice oa on oc, .int .i64 dn, .int .i64 vl] 28)).alloc (.cells #[.slice none 0 0, .int .i64 0, .slice none 0 0, .int .i64 0, .int .i64 0] 28)).alloc (.cells #[.slice none 0 0, .int .i64 fu, .slice oa on oc, .int .i64 dn, .int .i64 vl] 28)) := hid ⟨_, rfl⟩
  obtain ⟨w3, hw3⟩ := W3.out
  have hs3 : w3.heap.size = w.heap.size + 1 + 1 + 1 := by rw [hw3]; simp
  have B3 : Hid (Below w.heap.size w w3) := hid (by rw [hw3]; exact Below.alloc (Below.alloc (Below.alloc (Below.refl _ _) (Nat.le_refl _) _) (by simp) _) (by simp; omega) _)
  have Z3 : Hid (Z5 w3 (w.heap.size + 1)) := hid (by rw [hw3]; exact ⟨by simp [go_sem], by simp [go_sem], by simp [go_sem], by simp [go_sem], by simp [go_sem], by simp [go_sem], by simp [go_sem], by simp [go_sem], by simp [go_sem], by simp [go_sem]⟩)
  have S3 : Hid (SX w3 (w.heap.size + 1 + 1) (.slice none 0 0) fu (.slice oa on oc) dn vl) := hid (by rw [hw3]; exact ⟨by simp [go_sem], by simp [go_sem], by simp [go_sem], by simp [go_sem], by simp [go_sem], by simp [go_sem], by simp [go_sem]⟩)
  have A3 : Hid (w3.cell? ⟨w.heap.size, 0, none⟩ = some (.slice fa fn fc)) := hid (by rw [hw3]; simp [go_sem])
  have E3 := hid hw3
  have HS3 := hid hs3
  clear hw3 W3 hs3
  go_enter Tryz.func7, Tryz.ntmps7
  go_wp2_with (at_builtin; refine wpList_copyI w3 _ rfl _ _ rfl (by rw [E3.out]) (w.heap.size + 1 + 1 + 1) HS3.out rfl _ _ _ os rfl (HO.out.kept B3.out) ?_; intro oa' on' oc' w4 o4 b4; have b4' : Below w3.heap.size w3 w4 := (by rw [HS3.out]; exact b4); have S4 := S3.out.kept b4'; have s42 := S4.c2; have s4f := S4.f2; have Q4 := hid (And.intro S4 (And.intro o4 b4')); clear S4 o4 b4 b4')
  have R5 : Hid ((w4.setCell ⟨w.heap.size + 1 + 1, 2, none⟩ (.slice oa' on' oc')).cell? ⟨w.heap.size, 0, none⟩ = some (.slice fa fn fc) ∧ Z5 (w4.setCell ⟨w.heap.size + 1 + 1, 2, none⟩ (.slice oa' on' oc')) (w.heap.size + 1) ∧ SX (w4.setCell ⟨w.heap.size + 1 + 1, 2, none⟩ (.slice oa' on' oc')) (w.heap.size + 1 + 1) (.slice none 0 0) fu (.slice oa' on' oc') dn vl ∧
      (w4.setCell ⟨w.heap.size + 1 + 1, 2, none⟩ (.slice oa' on' oc')).ownsRow (w.heap.size + 3) 3 1 (.slice oa' on' oc') os.length (ints os) ∧ Below w.heap.size w (w4.setCell ⟨w.heap.size + 1 + 1, 2, none⟩ (.slice oa' on' oc'))) := hid (by
    obtain ⟨S4, o4, b4⟩ := Q4.out
    have fr : Frm (fun k => k = w.heap.size + 1 + 1) w4 (w4.setCell ⟨w.heap.size + 1 + 1, 2, none⟩ (.slice oa' on' oc')) := Frm.set _ rfl
    refine ⟨fr.cell (kept_cell b4 A3.out) (by omega), (Z3.out.kept b4).frm fr (by omega), S4.set2 _, owns_set o4 _ _ (by simp), (kt B3.out b4).setCell (by simp; omega) _⟩)
  clear s42 s4f Q4
  go_loopw [4] (fun i wr => ∃ q : Nat, q ≤ fn ∧ i = .int .i64 q ∧ wr.cell? ⟨w.heap.size, 0, none⟩ = some (.slice fa fn fc) ∧ Z5 wr (w.heap.size + 1) ∧ (∃ va vn vc, SX wr (w.heap.size + 1 + 1) (.slice va vn vc) fu (.slice oa' on' oc') dn vl ∧ OwnFrs 3 51 wr (w.heap.size + 3) (.slice va vn vc) (fs.take q)) ∧ wr.ownsRow (w.heap.size + 3) 3 1 (.slice oa' on' oc') os.length (ints os) ∧ Below w.heap.size w wr) (fun i _ => fn - (intOf i).toNat)
  case atStart => exact ⟨0, Nat.zero_le _, rfl, R5.out.1, R5.out.2.1, ⟨_, _, _, R5.out.2.2.1, OwnFrs.nil _ _ _ _⟩, R5.out.2.2.2.1, R5.out.2.2.2.2⟩
  case round =>
    clear R5 Z3 S3 A3 B3 E3 HS3
    obtain ⟨q, hq, rfl, g0, z5, ⟨va, vn, vc, sx, ho⟩, oo, hb⟩ := hrel
    by_cases hlt : q < fn
    · obtain ⟨b0, o0, x, y, la, ln, lc, ll, sa, sn, sc, sl, ha', e0, c0, c1, c2, c3, i1, i2⟩ := (HF.out.kept hb).at q hlt
      subst ha'
      have hsz := lt_of_cell sx.c0
      have hA : Below wr.heap.size wr (wr.alloc (.cells #[.int .i64 x, .int .i64 y, .slice la ln lc, .slice sa sn sc] 51)) := Below.alloc (Below.refl _ _) (Nat.le_refl _) _
      have F0 : Hid (FX (wr.alloc (.cells #[.int .i64 x, .int .i64 y, .slice la ln lc, .slice sa sn sc] 51)) wr.heap.size x y (.slice la ln lc) (.slice sa sn sc)) := hid ⟨by simp [go_sem], by simp [go_sem], by simp [go_sem], by simp [go_sem], by simp [go_sem], by simp [go_sem]⟩
      have I1 := hid (i1.kept hA)
      have I2 := hid i2
      have hll : Hid (ll.length * 8 ≤ 140737488351232 ∧ sl.length * 8 ≤ 140737488351232) := hid ⟨by rw [← i1.len]; exact i1.room, by rw [← i2.len]; exact i2.room⟩
      have A0 := hid hA
      have E0 := hid e0
      have RR := hid (And.intro g0 (And.intro z5 (And.intro sx oo)))
      have ldA : ((wr.alloc (.cells #[.int .i64 x, .int .i64 y, .slice la ln lc, .slice sa sn sc] 51)).alloc (.cells #[] 3)).cell? ⟨wr.heap.size, 2, none⟩ = some (.slice la ln lc) := kept_cell (Below.alloc (Below.refl _ _) (Nat.le_refl _) _) F0.out.c2
      obtain ⟨t, ht1, ht2, ht3⟩ := ho
      have hlen : (fs.take q).length = q := by rw [List.length_take]; have := L.out; omega
      rw [hlen] at ht1 ht2 ht3
      have HL := hid hlen
      have HT1 := hid ht1
      have HT2 := hid ht2
      have HT3 := hid ht3
      clear hA i1 i2 e0 z5 sx oo hlen ht1 ht2 ht3
      go_wp2_with (first
        | (at_builtin; refine wpList_copyI (wr.alloc (.cells #[.int .i64 x, .int .i64 y, .slice la ln lc, .slice sa sn sc] 51)) _ rfl _ _ rfl rfl (wr.heap.size + 1) (by simp) rfl _ _ _ ll rfl I1.out ?_; intro a1 n1 m1 w1 o1 b1; have b1' : Below (wr.alloc (.cells #[.int .i64 x, .int .i64 y, .slice la ln lc, .slice sa sn sc] 51)).heap.size (wr.alloc (.cells #[.int .i64 x, .int .i64 y, .slice la ln lc, .slice sa sn sc] 51)) w1 := (by simpa using b1); have F1 := F0.out.kept b1'; have x2 := F1.c2; have xf2 := F1.f2; have P1 := hid (F1.set2 (.slice a1 n1 m1)); have ldB := kept_cell (Below.alloc (Below.refl _ _) (Nat.le_refl _) (.cells #[] 3)) P1.out.c3; have O1 := hid o1; have B1 : Hid (Below wr.heap.size wr (w1.setCell ⟨wr.heap.size, 2, none⟩ (.slice a1 n1 m1))) := hid ((kt A0.out b1').setCell (by simp) _); have hs1 : wr.heap.size + 1 ≤ w1.heap.size := (by have := b1'.size; simpa using this); clear o1 b1 b1' F1)
        | (at_builtin; refine wpList_copyI (w1.setCell ⟨wr.heap.size, 2, none⟩ (.slice a1 n1 m1)) _ rfl _ _ rfl rfl w1.heap.size (by simp) rfl _ _ _ sl rfl (I2.out.kept B1.out) ?_; intro a2 n2 m2 w2 o2 b2; have b2' : Below (w1.setCell ⟨wr.heap.size, 2, none⟩ (.slice a1 n1 m1)).heap.size (w1.setCell ⟨wr.heap.size, 2, none⟩ (.slice a1 n1 m1)) w2 := (by simpa using b2); have F2 := P1.out.kept b2'; have y3 := F2.c3; have yf3 := F2.f3; have P2 := hid (F2.set3 (.slice a2 n2 m2)); have y20 := P2.out.c0; have y21 := P2.out.c1; have y22 := P2.out.c2; have y23 := P2.out.c3; have O2 := hid o2; have hs2 : w1.heap.size ≤ w2.heap.size := (by have := b2'.size; simpa using this); have B2 : Hid (Below wr.heap.size wr (w2.setCell ⟨wr.heap.size, 3, none⟩ (.slice a2 n2 m2))) := hid ((kt B1.out b2').setCell (by simp) _); have sx0 := (RR.out.2.2.1.kept B2.out).c0; have O12 : Hid ((w2.setCell ⟨wr.heap.size, 3, none⟩ (.slice a2 n2 m2)).ownsRow (w.heap.size + 3) 3 1 (.slice a1 n1 m1) ll.length (ints ll) ∧ (w2.setCell ⟨wr.heap.size, 3, none⟩ (.slice a2 n2 m2)).ownsRow (w.heap.size + 3) 3 1 (.slice a2 n2 m2) sl.length (ints sl)) := hid ⟨owns_base (owns_set (owns_kept (owns_set O1.out ⟨wr.heap.size, 2, none⟩ _ (by simp)) b2') ⟨wr.heap.size, 3, none⟩ _ (by simp)) (by omega), owns_base (owns_set O2.out ⟨wr.heap.size, 3, none⟩ _ (by simp; omega)) (by omega)⟩; have B3 : Hid (Below wr.heap.size wr ((w2.setCell ⟨wr.heap.size, 3, none⟩ (.slice a2 n2 m2)).alloc (.cells #[.int .i64 x, .int .i64 y, .slice a1 n1 m1, .slice a2 n2 m2] 51))) := hid (kt B2.out (Below.alloc (Below.refl _ _) (Nat.le_refl _) _)); clear o2 b2 b2' F2 x2 xf2 ldA ldB)
        | (at_builtin; refine wpList_append_lies _ rfl _ _ 25 rfl (w.heap.size + 3) 51 i0 (.agg #[.int .i64 0, .int .i64 0, .slice none 0 0, .slice none 0 0]) 4 64 Tryz.underlying25 hi hz0 hz1 hz2 rfl (by decide) (.slice va vn vc) q (flat4 t) rfl (owns_kept HT2.out B3.out) ⟨w2.heap.size, 0, none⟩ 1 1 [.int .i64 x, .int .i64 y, .slice a1 n1 m1, .slice a2 n2 m2] rfl rfl (news_of (by simp) _ 51) (by intro u hu; simp at hu; rcases hu with rfl | rfl | rfl | rfl <;> rfl) (by decide) (by unfold maxLen; omega) (by omega) (by simp; omega) (w2.heap.size + 1) (by simp) ?_; intro g cap w6 ho6 hg6 hat hlt6; have fr6 : Frm (fun k => (Value.slice va vn vc).ownBlock = some k) ((w2.setCell ⟨wr.heap.size, 3, none⟩ (.slice a2 n2 m2)).alloc (.cells #[.int .i64 x, .int .i64 y, .slice a1 n1 m1, .slice a2 n2 m2] 51)) w6 := Frm.of_grown hg6 (fun k h => h); have nb : ∀ b, b < w.heap.size + 3 → ¬ (Value.slice va vn vc).ownBlock = some b := (fun b hb h => by have := (HT2.out.lt _ h).1; omega); have sx6 := (RR.out.2.2.1.kept B3.out).frm fr6 (nb _ (by omega)); have z0 := sx6.c0; have zf := sx6.f0; have P := hid (And.intro ho6 (And.intro hg6 (And.intro fr6 (And.intro sx6 nb)))); clear ho6 hg6 hat hlt6 fr6 sx6 nb y3 yf3 y20 y21 y22 y23))
      go_roundw
      case rel =>
        obtain ⟨p1, p2, fr6, sx6, nb⟩ := P.out
        have fs7 : Frm (fun k => k = w.heap.size + 1 + 1) w6 (w6.setCell ⟨w.heap.size + 1 + 1, 0, none⟩ (.slice (some ⟨g, 0, none⟩) (q + 1) cap)) := Frm.set _ rfl
        have oB3 := owns_kept HT2.out B3.out
        refine ⟨q + 1, by omega, by go_num, fs7.cell (fr6.cell (kept_cell B3.out RR.out.1) (nb _ (by omega))) (by omega), ((RR.out.2.1.kept B3.out).frm fr6 (nb _ (by omega))).frm fs7 (by omega), ⟨_, _, _, sx6.set0 _, ?_⟩, ?_, ?_⟩
        · rw [take_snoc_getD (by have := L.out; omega) E0.out]
          refine (OwnFrs.snoc (by decide) HL.out HT1.out oB3 (fun i hi => ?_) (O12.out.1.alloc _) hll.out.1 (O12.out.2.alloc _) hll.out.2 p1 p2).set _ _ (by simp)
          obtain ⟨k1, k2, ⟨k3, k4⟩, k5, k6⟩ := HT3.out i hi
          exact ⟨k1, k2, ⟨k3, owns_kept k4 B3.out⟩, k5, owns_kept k6 B3.out⟩
        · have o6 := owns_kept RR.out.2.2.2 B3.out
          exact owns_set (o6.kept p2 (owns_apart o6 oB3 (by decide))) _ _ (by simp)
        · exact Below.setCell (Below.grown (kt hb B3.out) p2 (by have := B3.out.size; omega) (fun k hk => by have := (oB3.lt k hk).1; omega)) (by simp; omega) _
      case measure => simp [intOf]; omega
    · have hqn : q = fn := by omega
      subst hqn
      obtain ⟨c0, c1, c2, c3, c4, f0, f1, f2, f3, f4⟩ := z5
      obtain ⟨s0, s1, s2, s3, s4, _, _⟩ := sx
      have HH := hid (And.intro ho oo)
      clear ho oo
      go_wp2_with fail
      refine bodyPost_ret (v := .agg #[.slice va vn vc, .int .i64 fu, .slice oa' on' oc', .int .i64 dn, .int .i64 vl]) (by simp [results, Tryz.results7, go_sem, c0, c1, c2, c3, c4]) rfl ⟨_, _, _, _, rfl, ?_, ?_, below5 hb (by omega) _ _ _ _ _⟩
      · have h := HH.out.1
        rw [List.take_of_length_le (by have := L.out; omega)] at h
        exact h.set5 (by omega) _ _ _ _ _
      · exact owns_set (owns_set (owns_set (owns_set (owns_set HH.out.2 ⟨w.heap.size + 1, 0, none⟩ _ (by simp)) ⟨w.heap.size + 1, 1, none⟩ _ (by simp)) ⟨w.heap.size + 1, 2, none⟩ _ (by simp)) ⟨w.heap.size + 1, 3, none⟩ _ (by simp)) ⟨w.heap.size + 1, 4, none⟩ _ (by simp)

end Go.Proofs.YtcngmkbgcfhmdaaGreatDoor

namespace Go.Proofs.YtcngmkbgcfhmdaaGreatDoor
open Go.RowKit
set_option linter.unusedVariables false

set_option maxRecDepth 100000 in
set_option maxHeartbeats 2000000 in
/-- Of a frame that may be. -/
theorem refBehind_any (pa : Option Addr) (pn pc : Nat) (ps : List Fn) (f q : Nat) (called : Int) (w : World) (hp : Fns w pa pn pc ps) (hh : 0 ≤ heightV ps (f : Int) (q : Int)) :
    Calls Tryz.prog 54 #[.agg #[.slice pa pn pc], .int .i64 (f : Int), .int .i64 (q : Int), .int .i64 called] w fun e w' => e = .returned (.bool (behindB ps (f : Int) (q : Int) called)) ∧ Below w.heap.size w w' := by
  have HP := hid hp
  have LP := hid hp.len
  have hpr := hp.room
  have hpc := hp.cap
  obtain ⟨f2, q2, hf2, hq2, hf, hq, he, _, _⟩ := reached_in hh
  obtain rfl : f = f2 := by omega
  obtain rfl : q = q2 := by omega
  have hfn : f < pn := by rw [LP.out]; exact hf
  have hpk := (hts_ok he).1
  obtain ⟨b0, o0, fx, fy, fa, fn, fc, fl, rfl, e3, d0, d1, d2, i3⟩ := HP.out.at f hfn
  replace hq : q < fl.length := by rw [e3] at hq; exact hq
  have hvf := fnB_bd (fnB_of hpk hf e3)
  have hq64 : q < 64 := by omega
  have LF := hid i3.len
  have hfr3 := i3.room
  have hfc3 := i3.cap
  have E : Hid (behindB ps (f : Int) (q : Int) called = (reachedB ps (f : Int) ((q : Int) - 1) && decide (insAt fl ((q : Int) - 1).toNat = (14, called)))) := hid (by
    unfold behindB callB
    simp only [Int.toNat_natCast, e3])
  have HI := hid i3
  have D2 := hid d2
  clear d0 d1 e3 d2 i3 hf2 hq2 hh hp he hpk
  have G : Hid (Below w.heap.size w (w.alloc (.cells #[.slice (some ⟨b0, o0, none⟩) pn pc] 24))) := hid (by go_grown)
  go_enter Tryz.func54, Tryz.ntmps54
  go_wp2_with fail
  refine (refHeight_any _ _ _ ps (f : Int) ((q : Int) - 1) _ (HP.out.kept G.out)).mono ?_
  rintro e w1 ⟨rfl, b1⟩
  have B2 := hid (kt G.out b1)
  have p0 := kept_cell b1 (b := w.heap.size) (o := 0) (v := .slice (some ⟨b0, o0, none⟩) pn pc) (by simp [go_sem])
  clear b1
  by_cases hh : 0 ≤ heightV ps (f : Int) ((q : Int) - 1)
  · obtain ⟨f3, m, hf3, hm, -, -, -, -, -⟩ := reached_in hh
    clear hf3
    obtain ⟨q', rfl⟩ : ∃ q', q = q' + 1 := ⟨q - 1, by omega⟩
    have hq' : q' < fn := by have := LF.out; omega
    obtain ⟨b7, o7, K, A, rfl, e7, c7, c8⟩ := (HI.out.kept B2.out).at q' hq'
    have E2 : Hid (behindB ps (f : Int) ((q' + 1 : Nat) : Int) called = decide ((K, A) = (14, called))) := hid (by
      rw [E.out]
      unfold reachedB
      rw [decide_eq_true hh, Bool.true_and, show (((q' + 1 : Nat) : Int) - 1).toNat = q' by omega]
      unfold insAt
      rw [e7])
    have d2 := kept_cell B2.out D2.out
    have hh' : ¬ heightV ps (f : Int) (((q' + 1 : Nat) : Int) - 1) < 0 := by omega
    clear hm e7 hh
    generalize heightV ps (f : Int) (((q' + 1 : Nat) : Int) - 1) = H at hh' ⊢
    by_cases hK : K = 14
    · subst hK
      by_cases hA : A = called
      · subst hA
        go_wp2_with fail
        go_ret
        exact ⟨ret_bool (by rw [E2.out]; simp), B2.out⟩
      · have hA' : (A == called) = false := by simpa using hA
        go_wp2_with fail
        go_ret
        exact ⟨ret_bool (by rw [E2.out]; simp [hA]), B2.out⟩
    · have hK' : (K == 14) = false := by simpa using hK
      go_wp2_with fail
      go_ret
      exact ⟨ret_bool (by rw [E2.out]; simp [hK]), B2.out⟩
  · have E2 : Hid (behindB ps (f : Int) (q : Int) called = false) := hid (by rw [E.out]; unfold reachedB; rw [decide_eq_false hh]; rfl)
    have hh' : heightV ps (f : Int) ((q : Int) - 1) < 0 := by omega
    clear hh
    generalize heightV ps (f : Int) ((q : Int) - 1) = H at hh' ⊢
    go_wp2_with fail
    go_ret
    exact ⟨ret_bool E2.out.symm, B2.out⟩

theorem calls_nil (ps : List Fn) : callsB ps [] = true := rfl
theorem nk_len {l : List Int} {n : Nat} (h : n = l.length) : nkB l (n : Int) = numsB l := by unfold nkB lenB; rw [h]; simp

set_option maxRecDepth 100000 in
set_option maxHeartbeats 8000000 in
theorem refStateMay_any (pa : Option Addr) (pn pc : Nat) (ps : List Fn) (fa : Option Addr) (fn fc : Nat) (fs : List Fr) (fu : Int) (oa : Option Addr) (on oc : Nat) (os : List Int) (dn vl : Int) (w : World) (hp : Fns w pa pn pc ps) (hf : Frs w fa fn fc fs) (ho : Ints w oa on oc os) :
    Calls Tryz.prog 29 #[.agg #[.slice pa pn pc], .agg #[.slice fa fn fc, .int .i64 fu, .slice oa on oc, .int .i64 dn, .int .i64 vl]] w fun e w' => e = .returned (.bool (stateB ps (fs, fu, os, dn, vl))) ∧ Below w.heap.size w w' := by
  have HP := hid hp
  have HF := hid hf
  have HO := hid ho
  have LO := hid ho.len
  have L := hid hf.len
  have hor := ho.room
  have hoc := ho.cap
  have hfr := hf.room
  have hfc := hf.cap
  have G : Hid (Below w.heap.size w ((w.alloc (.cells #[.slice pa pn pc] 24)).alloc (.cells #[.slice fa fn fc, .int .i64 fu, .slice oa on oc, .int .i64 dn, .int .i64 vl] 28))) := hid (by go_grown)
  have E : Hid (stateB ps (fs, fu, os, dn, vl) = (fuelB fu on && (numsB os && (outB dn vl fn && (decide (verV ps = 0) && callsB ps fs))))) := hid (by unfold stateB; simp only []; rw [← ho.len, ← hf.len])
  clear hf ho hp
  go_enter Tryz.func29, Tryz.ntmps29
  go_wp2_with fail
  refine (refVerify_any _ _ _ ps _ (HP.out.kept G.out)).mono ?_
  rintro e w1 ⟨rfl, b1⟩
  have B1 := hid (kt G.out b1)
  have p0 := kept_cell b1 (b := w.heap.size) (o := 0) (v := .slice pa pn pc) (by simp [go_sem])
  have q0 := kept_cell b1 (b := w.heap.size + 1) (o := 0) (v := .slice fa fn fc) (by simp [go_sem])
  have q1 := kept_cell b1 (b := w.heap.size + 1) (o := 1) (v := .int .i64 fu) (by simp [go_sem])
  have q2 := kept_cell b1 (b := w.heap.size + 1) (o := 2) (v := .slice oa on oc) (by simp [go_sem])
  have q3 := kept_cell b1 (b := w.heap.size + 1) (o := 3) (v := .int .i64 dn) (by simp [go_sem])
  have q4 := kept_cell b1 (b := w.heap.size + 1) (o := 4) (v := .int .i64 vl) (by simp [go_sem])
  clear b1
  by_cases hv : verV ps = 0
  rotate_left
  · have E2 : Hid (stateB ps (fs, fu, os, dn, vl) = false) := hid (by rw [E.out, decide_eq_false hv]; simp)
    have hv' : (verV ps != 0) = true := by simp [hv]
    clear hv
    go_wp2_with fail
    go_ret
    exact ⟨ret_bool E2.out.symm, B1.out⟩
  rw [hv]
  have HV := hid hv
  clear hv
  by_cases h1 : fu < 0
  · have E2 : Hid (stateB ps (fs, fu, os, dn, vl) = false) := hid (by rw [E.out]; unfold fuelB; rw [decide_eq_false (by omega)]; rfl)
    go_wp2_with fail
    go_ret
    exact ⟨ret_bool E2.out.symm, B1.out⟩
  by_cases h2 : 100000 < fu
  · have E2 : Hid (stateB ps (fs, fu, os, dn, vl) = false) := hid (by rw [E.out]; unfold fuelB; rw [decide_eq_false (by omega)]; rfl)
    go_wp2_with fail
    go_ret
    exact ⟨ret_bool E2.out.symm, B1.out⟩
  by_cases h3 : 100000 - fu < (on : Int)
  · have E2 : Hid (stateB ps (fs, fu, os, dn, vl) = false) := hid (by rw [E.out]; unfold fuelB; rw [decide_eq_false (by omega)]; rfl)
    go_wp2_with fail
    go_ret
    exact ⟨ret_bool E2.out.symm, B1.out⟩
  have E1 : Hid (stateB ps (fs, fu, os, dn, vl) = (numsB os && (outB dn vl fn && callsB ps fs))) := hid (by rw [E.out, HV.out]; unfold fuelB; rw [decide_eq_true (by omega)]; simp)
  go_wp2_with fail
  refine (refNumbers_any _ _ _ os _ _ (HO.out.kept B1.out)).mono ?_
  rintro e w2 ⟨rfl, b2⟩
  rw [nk_len LO.out]
  have B2 := hid (kt B1.out b2)
  replace p0 := kept_cell b2 p0
  replace q0 := kept_cell b2 q0
  replace q3 := kept_cell b2 q3
  replace q4 := kept_cell b2 q4
  clear b2 q1 q2
  cases h4 : numsB os
  · have E2 : Hid (stateB ps (fs, fu, os, dn, vl) = false) := hid (by rw [E1.out, h4]; rfl)
    go_wp2_with fail
    go_ret
    exact ⟨ret_bool E2.out.symm, B2.out⟩
  have E3 : Hid (stateB ps (fs, fu, os, dn, vl) = (outB dn vl fn && callsB ps fs)) := hid (by rw [E1.out, h4]; rfl)
  clear h4 E1 E
  by_cases h5 : dn = 0
  rotate_left
  · have h5' : (dn != 0) = true := by simpa using h5
    by_cases h6 : 0 < dn
    rotate_left
    · have E2 : Hid (stateB ps (fs, fu, os, dn, vl) = false) := hid (by rw [E3.out]; simp [outB, h5, show ¬ dn = 1 by omega, show ¬ dn = 2 by omega, show ¬ dn = 3 by omega, show ¬ dn = 4 by omega])
      have h6' : decide (0 < dn) = false := by simpa using h6
      go_wp2_with fail
      go_ret
      exact ⟨ret_bool E2.out.symm, B2.out⟩
    by_cases h7 : dn ≤ 4
    rotate_left
    · have E2 : Hid (stateB ps (fs, fu, os, dn, vl) = false) := hid (by rw [E3.out]; simp [outB, h5, show ¬ dn = 1 by omega, show ¬ dn = 2 by omega, show ¬ dn = 3 by omega, show ¬ dn = 4 by omega])
      have h7' : decide (dn ≤ 4) = false := by simpa using h7
      go_wp2_with fail
      go_ret
      exact ⟨ret_bool E2.out.symm, B2.out⟩
    by_cases h8 : fn = 0
    rotate_left
    · have E2 : Hid (stateB ps (fs, fu, os, dn, vl) = false) := hid (by rw [E3.out]; simp [outB, h5, h8])
      have h8' : ((fn : Int) == 0) = false := by simp; omega
      go_wp2_with fail
      go_ret
      exact ⟨ret_bool E2.out.symm, B2.out⟩
    subst h8
    have hfs : fs = [] := List.length_eq_zero_iff.1 L.out.symm
    subst hfs
    by_cases h9 : dn = 1
    · subst h9
      cases h10 : isNum vl
      · have E2 : Hid (stateB ps ([], fu, os, 1, vl) = false) := hid (by rw [E3.out]; simp [outB, h10])
        have h11 : (vl == 0) = false := by
          simp
          intro h
          rw [h] at h10
          simp [isNum] at h10
        go_wp2_with (go_at_call 52; refine (refNumber_any _ _).mono ?_; rintro e w' ⟨rfl, hw⟩; rw [hw]; clear hw)
        go_ret
        exact ⟨ret_bool E2.out.symm, B2.out⟩
      · have E2 : Hid (stateB ps ([], fu, os, 1, vl) = true) := hid (by rw [E3.out]; simp [outB, h10, calls_nil])
        go_wp2_with (go_at_call 52; refine (refNumber_any _ _).mono ?_; rintro e w' ⟨rfl, hw⟩; rw [hw]; clear hw)
        go_ret
        exact ⟨ret_bool E2.out.symm, B2.out⟩
    · have h9' : (dn == 1) = false := by simpa using h9
      have E2 : Hid (stateB ps ([], fu, os, dn, vl) = (vl == 0)) := hid (by rw [E3.out, Bool.eq_iff_iff]; simp [outB, h5, h9, calls_nil]; omega)
      go_wp2_with fail
      go_ret
      exact ⟨ret_bool E2.out.symm, B2.out⟩
  subst h5
  by_cases h6 : fn < 1
  · have E2 : Hid (stateB ps (fs, fu, os, 0, vl) = false) := hid (by rw [E3.out]; simp [outB]; omega)
    go_wp2_with fail
    go_ret
    exact ⟨ret_bool E2.out.symm, B2.out⟩
  by_cases h7 : 12 < fn
  · have E2 : Hid (stateB ps (fs, fu, os, 0, vl) = false) := hid (by rw [E3.out]; simp [outB]; omega)
    go_wp2_with fail
    go_ret
    exact ⟨ret_bool E2.out.symm, B2.out⟩
  by_cases h8 : vl = 0
  rotate_left
  · have E2 : Hid (stateB ps (fs, fu, os, 0, vl) = false) := hid (by rw [E3.out]; simp [outB, h8])
    have h8' : (vl != 0) = true := by simpa using h8
    go_wp2_with fail
    go_ret
    exact ⟨ret_bool E2.out.symm, B2.out⟩
  subst h8
  have E4 : Hid (stateB ps (fs, fu, os, 0, 0) = callsB ps fs) := hid (by rw [E3.out]; simp [outB]; omega)
  have P0 := hid p0
  have Q0 := hid q0
  clear E3
  go_wp2_with fail
  go_loopw [6] (fun i wr => ∃ q : Nat, q + 1 ≤ fn ∧ i = .int .i64 q ∧ (firstAt (fun i => !callAt ps fs i) (fs.length - q) q).isNone = callsB ps fs ∧ wr.cell? ⟨w.heap.size, 0, none⟩ = some (.slice pa pn pc) ∧ wr.cell? ⟨w.heap.size + 1, 0, none⟩ = some (.slice fa fn fc) ∧ Below w.heap.size w wr) (fun i _ => fn - (intOf i).toNat)
  case atStart => exact ⟨0, by omega, rfl, rfl, P0.out, Q0.out, B2.out⟩
  case round =>
    clear p0 q0 q3 q4
    obtain ⟨q, hq, rfl, hc9, g0, g1, hb⟩ := hrel
    have HC := hid hc9
    clear hc9
    obtain ⟨b0, o0, x, y, la, ln, lc, ll, sa, sn, sc, sl, ha', e0, c0, c1, c2, c3, i1, i2⟩ := (HF.out.kept hb).at q (by omega)
    subst ha'
    have E0 := hid e0
    have I1 := hid i1
    have I2 := hid i2
    clear i1 i2 e0
    by_cases hlt : q + 1 < fn
    · obtain ⟨b9, o9, x', y', la', ln', lc', ll', sa', sn', sc', sl', ha', e0', d0, _, _, _, _, _⟩ := (HF.out.kept hb).at (q + 1) (by omega)
      cases ha'
      have hA : Below wr.heap.size wr (wr.alloc (.cells #[.int .i64 x, .int .i64 y, .slice la ln lc, .slice sa sn sc] 51)) := Below.alloc (Below.refl _ _) (Nat.le_refl _) _
      have A := hid hA
      have BA := hid (kt hb hA)
      have EA : Hid (callAt ps fs q = waitB ps (x, y, ll, sl) x') := hid (callAt_wait (by have := L.out; omega) E0.out (by rw [e0']))
      have r0 := cell_regrown (kept_cell hA g0)
      have r1 := cell_regrown (kept_cell hA g1)
      have r2 := cell_regrown (kept_cell hA d0)
      have s0 := cell_regrown (w := wr.alloc (.cells #[.int .i64 x, .int .i64 y, .slice la ln lc, .slice sa sn sc] 51)) (a := ⟨wr.heap.size, 0, none⟩) (v := .int .i64 x) (by simp [go_sem])
      have s1 := cell_regrown (w := wr.alloc (.cells #[.int .i64 x, .int .i64 y, .slice la ln lc, .slice sa sn sc] 51)) (a := ⟨wr.heap.size, 1, none⟩) (v := .int .i64 y) (by simp [go_sem])
      have s2 := cell_regrown (w := wr.alloc (.cells #[.int .i64 x, .int .i64 y, .slice la ln lc, .slice sa sn sc] 51)) (a := ⟨wr.heap.size, 2, none⟩) (v := .slice la ln lc) (by simp [go_sem])
      have s3 := cell_regrown (w := wr.alloc (.cells #[.int .i64 x, .int .i64 y, .slice la ln lc, .slice sa sn sc] 51)) (a := ⟨wr.heap.size, 3, none⟩) (v := .slice sa sn sc) (by simp [go_sem])
      have GG := hid (And.intro g0 g1)
      clear d0 e0' hA g0
      cases hW : frB ps 1 (x, y, ll, sl)
      · have E2 : Hid (stateB ps (fs, fu, os, 0, 0) = false) := hid (by rw [E4.out, ← HC.out]; exact calls_bad (by have := L.out; omega) (by rw [EA.out]; unfold waitB; rw [hW]; rfl))
        go_wp2_with fail
        refine wp_region_quiet_below (by kernel_rfl) (by kernel_rfl) ?_
        repeat (go_big_quiet_step (first | (go_at_call 53; exact Calls.regrown_of (refFrame_any _ _ _ ps x y _ _ _ ll _ _ _ sl 1 _ ((HP.out.kept BA.out).kept (below_regrown _ _ _)) ((I1.out.kept A.out).kept (below_regrown _ _ _)) ((I2.out.kept A.out).kept (below_regrown _ _ _)) (by omega) (by omega)))))
        refine wpQuiet_nil ?_
        intro _ hw'
        obtain ⟨⟨dq, osq⟩, hw''⟩ := hw'
        subst hw''
        go_wp2_with fail
        go_ret
        exact ⟨ret_bool E2.out.symm, kt BA.out (below_regrown _ _ _)⟩
      · obtain ⟨f, z, hx, hy, -, -, -, -, -⟩ := reached_in (frB_reached hW)
        obtain rfl : x = (f : Int) := hx
        obtain rfl : y = (z : Int) := hy
        have HH : Hid (0 ≤ heightV ps (f : Int) (z : Int)) := hid (frB_reached hW)
        have EB : Hid (callAt ps fs q = behindB ps (f : Int) (z : Int) x') := hid (by rw [EA.out]; unfold waitB; rw [hW]; rfl)
        cases hB : behindB ps (f : Int) (z : Int) x'
        · have E2 : Hid (stateB ps (fs, fu, os, 0, 0) = false) := hid (by rw [E4.out, ← HC.out]; exact calls_bad (by have := L.out; omega) (by rw [EB.out, hB]))
          go_wp2_with fail
          refine wp_region_quiet_below (by kernel_rfl) (by kernel_rfl) ?_
          repeat (go_big_quiet_step (first | (go_at_call 53; exact Calls.regrown_of (refFrame_any _ _ _ ps (f : Int) (z : Int) _ _ _ ll _ _ _ sl 1 _ ((HP.out.kept BA.out).kept (below_regrown _ _ _)) ((I1.out.kept A.out).kept (below_regrown _ _ _)) ((I2.out.kept A.out).kept (below_regrown _ _ _)) (by omega) (by omega))) | (go_at_call 54; exact Calls.regrown_of (refBehind_any _ _ _ ps f z x' _ ((HP.out.kept BA.out).kept (below_regrown _ _ _)) HH.out))))
          refine wpQuiet_nil ?_
          intro _ hw'
          obtain ⟨⟨dq, osq⟩, hw''⟩ := hw'
          subst hw''
          go_wp2_with fail
          go_ret
          exact ⟨ret_bool E2.out.symm, kt BA.out (below_regrown _ _ _)⟩
        · have E2 : Hid (callAt ps fs q = true) := hid (by rw [EB.out, hB])
          go_wp2_with fail
          refine wp_region_quiet_below (by kernel_rfl) (by kernel_rfl) ?_
          repeat (go_big_quiet_step (first | (go_at_call 53; exact Calls.regrown_of (refFrame_any _ _ _ ps (f : Int) (z : Int) _ _ _ ll _ _ _ sl 1 _ ((HP.out.kept BA.out).kept (below_regrown _ _ _)) ((I1.out.kept A.out).kept (below_regrown _ _ _)) ((I2.out.kept A.out).kept (below_regrown _ _ _)) (by omega) (by omega))) | (go_at_call 54; exact Calls.regrown_of (refBehind_any _ _ _ ps f z x' _ ((HP.out.kept BA.out).kept (below_regrown _ _ _)) HH.out))))
          refine wpQuiet_nil ?_
          intro _ hw'
          obtain ⟨⟨dq, osq⟩, hw''⟩ := hw'
          subst hw''
          go_wp2_with fail
          go_roundw
          case rel => exact ⟨q + 1, by omega, by go_num, by rw [calls_step (by have := L.out; omega) E2.out]; exact HC.out, kept_cell (below_regrown _ _ _) (kept_cell A.out GG.out.1), kept_cell (below_regrown _ _ _) (kept_cell A.out GG.out.2), kt BA.out (below_regrown _ _ _)⟩
          case measure => simp [intOf]; omega
    · have hqn : q + 1 = fn := by omega
      subst hqn
      have E2 : Hid (stateB ps (fs, fu, os, 0, 0) = frB ps 0 (x, y, ll, sl)) := hid (by rw [E4.out, ← HC.out, calls_last L.out, callAt_last L.out E0.out])
      have r0 := cell_regrown g0
      have r1 := cell_regrown g1
      have s0 := cell_regrown c0
      have s1 := cell_regrown c1
      have s2 := cell_regrown c2
      have s3 := cell_regrown c3
      go_wp2_with fail
      refine wp_region_quiet_below (by kernel_rfl) (by kernel_rfl) ?_
      repeat (go_big_quiet_step (first | (go_at_call 53; exact Calls.regrown_of (refFrame_any _ _ _ ps x y _ _ _ ll _ _ _ sl 0 _ ((HP.out.kept hb).kept (below_regrown _ _ _)) (I1.out.kept (below_regrown _ _ _)) (I2.out.kept (below_regrown _ _ _)) (by omega) (by omega)))))
      refine wpQuiet_nil ?_
      intro _ hw'
      obtain ⟨⟨dq, osq⟩, hw''⟩ := hw'
      subst hw''
      go_wp2_with fail
      go_ret
      exact ⟨ret_bool E2.out.symm, kt hb (below_regrown _ _ _)⟩

end Go.Proofs.YtcngmkbgcfhmdaaGreatDoor

namespace Go.Proofs.YtcngmkbgcfhmdaaGreatDoor
open Go.RowKit
set_option linter.unusedVariables false

theorem list_ext0 {a b : List Int} (hl : a.length = b.length) (h : ∀ i, i < a.length → a.getD i 0 = b.getD i 0) : a = b := by
  apply List.ext_getElem hl
  intro i h1 h2
  have := h i h1
  simpa [List.getD_eq_getElem?_getD, h1, h2] using this
theorem freshL_at (k : Nat) (args : List Int) (i : Nat) (h : i < k) : (freshL k args).getD i 0 = args.getD i 0 := by
  unfold freshL
  rw [List.getD_eq_getElem?_getD, List.getElem?_take_of_lt h, List.getD_eq_getElem?_getD]
  rcases Nat.lt_or_ge i args.length with h1 | h1
  · rw [List.getElem?_append_left h1]
  · rw [List.getElem?_append_right h1, List.getElem?_replicate, if_pos (by omega), List.getElem?_eq_none h1]
    rfl
theorem freshL_nil (k : Nat) : freshL k [] = List.replicate k 0 := by simp [freshL]
theorem freshL_step (k : Nat) (args : List Int) (q : Nat) (hk : q < k) (ha : q < args.length) : freshL k (args.take (q + 1)) = (freshL k (args.take q)).set q (args.getD q 0) := by
  refine list_ext0 (by simp [freshL_len]) (fun i hi => ?_)
  rw [freshL_len] at hi
  rw [freshL_at _ _ _ hi, getD_set_i, freshL_len, freshL_at _ _ _ hi]
  simp only [List.getD_eq_getElem?_getD]
  by_cases h : q = i
  · subst h
    rw [if_pos ⟨rfl, hk⟩, List.getElem?_take_of_lt (by omega)]
  · rw [if_neg (fun e => h e.1)]
    rcases Nat.lt_or_ge i q with h1 | h1
    · rw [List.getElem?_take_of_lt (by omega), List.getElem?_take_of_lt h1]
    · rw [List.getElem?_eq_none (by simp; omega), List.getElem?_eq_none (by simp; omega)]
theorem freshL_end (k : Nat) (args : List Int) (q : Nat) (h : args.length ≤ q ∨ k ≤ q) : freshL k (args.take q) = freshL k args := by
  refine list_ext0 (by simp [freshL_len]) (fun i hi => ?_)
  rw [freshL_len] at hi
  rw [freshL_at _ _ _ hi, freshL_at _ _ _ hi]
  rcases h with h | h
  · rw [List.take_of_length_le h]
  · simp only [List.getD_eq_getElem?_getD]
    rw [List.getElem?_take_of_lt (by omega)]

/-- A frame's four cells, zero, in a block of its own. -/
structure Z4 (w : World) (b : Nat) : Prop where
  c0 : w.cell? ⟨b, 0, none⟩ = some (.int .i64 0)
  c1 : w.cell? ⟨b, 1, none⟩ = some (.int .i64 0)
  c2 : w.cell? ⟨b, 2, none⟩ = some (.slice none 0 0)
  c3 : w.cell? ⟨b, 3, none⟩ = some (.slice none 0 0)
  f0 : w.frozen? ⟨b, 0, none⟩ = false
  f1 : w.frozen? ⟨b, 1, none⟩ = false
  f2 : w.frozen? ⟨b, 2, none⟩ = false
  f3 : w.frozen? ⟨b, 3, none⟩ = false
theorem Z4.frm {S : Nat → Prop} {w w' : World} {b : Nat} (h : Z4 w b) (hf : Frm S w w') (hb : ¬ S b) : Z4 w' b :=
  ⟨hf.cell h.c0 hb, hf.cell h.c1 hb, hf.cell h.c2 hb, hf.cell h.c3 hb, hf.free h.c0 h.f0 hb, hf.free h.c1 h.f1 hb, hf.free h.c2 h.f2 hb, hf.free h.c3 h.f3 hb⟩

set_option maxRecDepth 100000 in
set_option maxHeartbeats 4000000 in
theorem refFresh_any (pa : Option Addr) (pn pc : Nat) (ps : List Fn) (f : Nat) (nl : Nat) (aa : Option Addr) (an ac : Nat) (args : List Int) (w : World) (hp : Fns w pa pn pc ps) (ha : Ints w aa an ac args) (hf : f < pn) (hnl : (ps.getD f noFn).2.1 = (nl : Int)) (h8 : nl ≤ 8) :
    Calls Tryz.prog 57 #[.agg #[.slice pa pn pc], .int .i64 (f : Int), .slice aa an ac] w fun e w' => ∃ lv, e = .returned (.agg #[.int .i64 (f : Int), .int .i64 0, lv, .slice none 0 0]) ∧ w'.ownsRow w.heap.size 3 1 lv (freshL nl args).length (ints (freshL nl args)) ∧ Below w.heap.size w w' := by
  have HA := hid ha
  have LA := hid ha.len
  have har := ha.room
  have hac := ha.cap
  have hpr := hp.room
  have hpc := hp.cap
  obtain ⟨b0, o0, fx, fy, fa, fn, fc, fl, rfl, e3, d0, d1, d2, i3⟩ := hp.at f hf
  rw [e3] at hnl
  obtain rfl : fy = (nl : Int) := hnl
  have z1 := lt_of_cell d1
  clear e3 d0 d2 i3 hp ha
  have hmk := run_make_row' (P := Tryz.prog) 26 3 (.int .i64 0) 8 Tryz.underlying26 Tryz.infoInt rfl .i64 .i64 nl (by omega) (by omega)
  have W3 : Hid (∃ w3 : World, w3 = ((w.alloc (.cells #[.slice (some ⟨b0, o0, none⟩) pn pc] 24)).alloc (.cells #[.int .i64 0, .int .i64 0, .slice none 0 0, .slice none 0 0] 51)).alloc (.cells (madeCells #[.int .i64 0] nl) 3)) := hid ⟨_, rfl⟩
  obtain ⟨w3, hw3⟩ := W3.out
  have N3 : Hid (NumSt w3 (w.heap.size + 1 + 1) nl (w.heap.size + 2) (freshL nl (args.take 0))) := hid (by
    have := NumSt.make ((w.alloc (.cells #[.slice (some ⟨b0, o0, none⟩) pn pc] 24)).alloc (.cells #[.int .i64 0, .int .i64 0, .slice none 0 0, .slice none 0 0] 51)) nl (w.heap.size + 2) (by simp) (by unfold maxLen; omega)
    rw [show ((w.alloc (.cells #[.slice (some ⟨b0, o0, none⟩) pn pc] 24)).alloc (.cells #[.int .i64 0, .int .i64 0, .slice none 0 0, .slice none 0 0] 51)).heap.size = w.heap.size + 1 + 1 by simp] at this
    rw [hw3, List.take_zero, freshL_nil]; exact this)
  have Z3 : Hid (Z4 w3 (w.heap.size + 1)) := hid (by rw [hw3]; exact ⟨by simp [go_sem], by simp [go_sem], by simp [go_sem], by simp [go_sem], by simp [go_sem], by simp [go_sem], by simp [go_sem], by simp [go_sem]⟩)
  have B3 : Hid (Below w.heap.size w w3) := hid (by rw [hw3]; exact Below.alloc (Below.alloc (Below.alloc (Below.refl _ _) (Nat.le_refl _) _) (by simp) _) (by simp; omega) _)
  have E3 := hid hw3
  clear hw3 W3
  go_enter Tryz.func57, Tryz.ntmps57
  go_wp2_with fail
  rw [← E3.out]
  go_loopw [8] (fun s wr => ∃ q : Nat, q ≤ an ∧ q ≤ nl ∧ s = .int .i64 q ∧ NumSt wr (w.heap.size + 1 + 1) nl (w.heap.size + 2) (freshL nl (args.take q)) ∧ Z4 wr (w.heap.size + 1) ∧ Below w.heap.size w wr) (fun s _ => nl - (intOf s).toNat)
  case atStart => exact ⟨0, Nat.zero_le _, Nat.zero_le _, rfl, N3.out, Z3.out, B3.out⟩
  case round =>
    clear N3 Z3 B3
    obtain ⟨q, hq, hq2, rfl, ns, z4, hb⟩ := hrel
    by_cases hlt : q < an ∧ q < nl
    · obtain ⟨h1, h2⟩ := hlt
      obtain ⟨b5, o5, rfl, r5⟩ := (HA.out.kept hb).row (by omega)
      have c5 := r5 q h1
      generalize hx : args.getD q 0 = x at c5
      have HX := hid hx
      have cN := ns.at q h2
      have fN := ns.free q
      generalize (freshL nl (args.take q)).getD q 0 = old at cN
      have R : Hid (NumSt (wr.setCell ⟨w.heap.size + 1 + 1, q, none⟩ (.int .i64 x)) (w.heap.size + 1 + 1) nl (w.heap.size + 2) (freshL nl (args.take (q + 1)))) := hid (by
        rw [freshL_step nl args q h2 (by rw [← LA.out]; exact h1), hx]; exact ns.put q x)
      have ZZ : Hid (Z4 (wr.setCell ⟨w.heap.size + 1 + 1, q, none⟩ (.int .i64 x)) (w.heap.size + 1)) := hid (z4.frm (Frm.set (S := fun k => k = w.heap.size + 1 + 1) (p := ⟨w.heap.size + 1 + 1, q, none⟩) _ rfl) (by omega))
      clear hx r5 ns z4
      go_wp2_with fail
      go_roundw
      case rel => exact ⟨q + 1, by omega, by omega, by go_num, R.out, ZZ.out, hb.setCell (by simp; omega) _⟩
      case measure => simp [intOf]; omega
    · have F : Hid (freshL nl (args.take q) = freshL nl args) := hid (freshL_end nl args q (by rw [← LA.out]; omega))
      rw [F.out] at ns
      have NS := hid ns
      obtain ⟨c0, c1, c2, c3, f0, f1, f2, f3⟩ := z4
      clear ns
      by_cases h1 : q < an
      · have h2 : ¬ q < nl := by omega
        go_wp2_with fail
        refine bodyPost_ret (v := .agg #[.int .i64 (f : Int), .int .i64 0, .slice (some ⟨w.heap.size + 1 + 1, 0, none⟩) nl nl, .slice none 0 0]) (by simp [results, Tryz.results57, go_sem, c0, c1, c2, c3]) rfl ⟨_, rfl, ?_, ?_⟩
        · rw [freshL_len]
          exact owns_base (owns_set (owns_set (owns_set (owns_set NS.out.row ⟨w.heap.size + 1, 0, none⟩ _ (by simp)) ⟨w.heap.size + 1, 1, none⟩ _ (by simp)) ⟨w.heap.size + 1, 2, none⟩ _ (by simp)) ⟨w.heap.size + 1, 3, none⟩ _ (by simp)) (by omega)
        · exact (((hb.setCell (p := ⟨w.heap.size + 1, 0, none⟩) (by simp) _).setCell (p := ⟨w.heap.size + 1, 1, none⟩) (by simp) _).setCell (p := ⟨w.heap.size + 1, 2, none⟩) (by simp) _).setCell (p := ⟨w.heap.size + 1, 3, none⟩) (by simp) _
      · go_wp2_with fail
        refine bodyPost_ret (v := .agg #[.int .i64 (f : Int), .int .i64 0, .slice (some ⟨w.heap.size + 1 + 1, 0, none⟩) nl nl, .slice none 0 0]) (by simp [results, Tryz.results57, go_sem, c0, c1, c2, c3]) rfl ⟨_, rfl, ?_, ?_⟩
        · rw [freshL_len]
          exact owns_base (owns_set (owns_set (owns_set (owns_set NS.out.row ⟨w.heap.size + 1, 0, none⟩ _ (by simp)) ⟨w.heap.size + 1, 1, none⟩ _ (by simp)) ⟨w.heap.size + 1, 2, none⟩ _ (by simp)) ⟨w.heap.size + 1, 3, none⟩ _ (by simp)) (by omega)
        · exact (((hb.setCell (p := ⟨w.heap.size + 1, 0, none⟩) (by simp) _).setCell (p := ⟨w.heap.size + 1, 1, none⟩) (by simp) _).setCell (p := ⟨w.heap.size + 1, 2, none⟩) (by simp) _).setCell (p := ⟨w.heap.size + 1, 3, none⟩) (by simp) _

set_option maxRecDepth 100000 in
set_option maxHeartbeats 4000000 in
theorem refStart_any (pa : Option Addr) (pn pc : Nat) (ps : List Fn) (aa : Option Addr) (an ac : Nat) (args : List Int) (fuel : Int) (w : World) (hp : Fns w pa pn pc ps) (ha : Ints w aa an ac args) :
    Calls Tryz.prog 36 #[.agg #[.slice pa pn pc], .slice aa an ac, .int .i64 fuel] w fun e w' => ∃ v, e = .returned (.tuple #[.agg #[v, .int .i64 (startV ps args fuel).2.1, .slice none 0 0, .int .i64 0, .int .i64 0], .int .i64 (startE ps args fuel)]) ∧ OwnFrs 3 51 w' w.heap.size v (startV ps args fuel).1 ∧ Below w.heap.size w w' := by
  have HP := hid hp
  have HA := hid ha
  have LA := hid ha.len
  have LP := hid hp.len
  have har := ha.room
  have hac := ha.cap
  have hpr := hp.room
  have hpc := hp.cap
  clear hp ha
  generalize hV : startV ps args fuel = V
  generalize hE : startE ps args fuel = EE
  have HSV := hid hV
  have HSE := hid hE
  clear hV hE
  have Z0 : Hid (Z5 ((w.alloc (.cells #[.slice pa pn pc] 24)).alloc (.cells #[.slice none 0 0, .int .i64 0, .slice none 0 0, .int .i64 0, .int .i64 0] 28)) (w.heap.size + 1)) := hid ⟨by simp [go_sem], by simp [go_sem], by simp [go_sem], by simp [go_sem], by simp [go_sem], by simp [go_sem], by simp [go_sem], by simp [go_sem], by simp [go_sem], by simp [go_sem]⟩
  have G : Hid (Below w.heap.size w ((w.alloc (.cells #[.slice pa pn pc] 24)).alloc (.cells #[.slice none 0 0, .int .i64 0, .slice none 0 0, .int .i64 0, .int .i64 0] 28))) := hid (by go_grown)
  go_enter Tryz.func36, Tryz.ntmps36
  go_wp2_with fail
  refine (refVerify_any _ _ _ ps _ (HP.out.kept G.out)).mono ?_
  rintro e w1 ⟨rfl, b1⟩
  have BB := hid (kt G.out b1)
  have Z1 := hid (Z0.out.kept b1)
  have p0 := kept_cell b1 (b := w.heap.size) (o := 0) (v := .slice pa pn pc) (by simp [go_sem])
  clear b1
  by_cases hv : verV ps = 0
  rotate_left
  · have EB : Hid (startV ps args fuel = noSt ∧ startE ps args fuel = 600) := hid (startB_bad (by unfold startB; rw [decide_eq_false hv]; simp))
    obtain rfl : V = noSt := by rw [← HSV.out, EB.out.1]
    obtain rfl : EE = 600 := by rw [← HSE.out, EB.out.2]
    have hv' : (verV ps != 0) = true := by simp [hv]
    obtain ⟨c0, c1, c2, c3, c4, f0, f1, f2, f3, f4⟩ := Z1.out
    clear hv
    go_wp2_with fail
    refine bodyPost_ret (v := .tuple #[.agg #[.slice none 0 0, .int .i64 0, .slice none 0 0, .int .i64 0, .int .i64 0], .int .i64 600]) (by simp [results, Tryz.results36, go_sem, c0, c1, c2, c3, c4]) rfl ⟨_, rfl, OwnFrs.nil _ _ _ _, below5 BB.out (by omega) _ _ _ _ _⟩
  rw [hv]
  have hps := ver_some hv
  have hpn : 0 < pn := by rw [LP.out]; omega
  obtain ⟨b0, o0, fx, fy, fa, fn, fc, fl, rfl, e3, d0, d1, d2, i3⟩ := (HP.out.kept BB.out).at 0 hpn
  have hvf := ver_fn hv (by omega) e3
  have ES : Hid (startB ps args fuel = (decide (0 ≤ fuel ∧ fuel ≤ 100000) && (lenB args fx && numsB args))) := hid (by unfold startB; rw [decide_eq_true hv, e3]; rfl)
  obtain ⟨nl, rfl⟩ : ∃ nl : Nat, fy = nl := ⟨fy.toNat, by omega⟩
  have E3 := hid e3
  have HV := hid hv
  simp only [Nat.zero_mul, Nat.add_zero] at d0 d1 d2
  clear i3 e3 hv d1 d2
  go_wp2_with fail
  refine (refNumbers_any _ _ _ args _ _ (HA.out.kept BB.out)).mono ?_
  rintro e w2 ⟨rfl, b2⟩
  have B2 := hid (kt BB.out b2)
  replace Z1 := hid (Z1.out.kept b2)
  replace p0 := kept_cell b2 p0
  clear b2 BB d0
  have BB := B2
  clear B2
  cases hn : nkB args fx
  · have EB : Hid (startV ps args fuel = noSt ∧ startE ps args fuel = 600) := hid (startB_bad (by rw [ES.out, Bool.and_comm (lenB args fx)]; show (_ && nkB args fx) = false; rw [hn]; simp))
    obtain rfl : V = noSt := by rw [← HSV.out, EB.out.1]
    obtain rfl : EE = 600 := by rw [← HSE.out, EB.out.2]
    obtain ⟨c0, c1, c2, c3, c4, f0, f1, f2, f3, f4⟩ := Z1.out
    go_wp2_with fail
    refine bodyPost_ret (v := .tuple #[.agg #[.slice none 0 0, .int .i64 0, .slice none 0 0, .int .i64 0, .int .i64 0], .int .i64 600]) (by simp [results, Tryz.results36, go_sem, c0, c1, c2, c3, c4]) rfl ⟨_, rfl, OwnFrs.nil _ _ _ _, below5 BB.out (by omega) _ _ _ _ _⟩
  by_cases h1 : fuel < 0
  · have EB : Hid (startV ps args fuel = noSt ∧ startE ps args fuel = 600) := hid (startB_bad (by rw [ES.out, decide_eq_false (by omega)]; rfl))
    obtain rfl : V = noSt := by rw [← HSV.out, EB.out.1]
    obtain rfl : EE = 600 := by rw [← HSE.out, EB.out.2]
    obtain ⟨c0, c1, c2, c3, c4, f0, f1, f2, f3, f4⟩ := Z1.out
    go_wp2_with fail
    refine bodyPost_ret (v := .tuple #[.agg #[.slice none 0 0, .int .i64 0, .slice none 0 0, .int .i64 0, .int .i64 0], .int .i64 600]) (by simp [results, Tryz.results36, go_sem, c0, c1, c2, c3, c4]) rfl ⟨_, rfl, OwnFrs.nil _ _ _ _, below5 BB.out (by omega) _ _ _ _ _⟩
  by_cases h2 : 100000 < fuel
  · have EB : Hid (startV ps args fuel = noSt ∧ startE ps args fuel = 600) := hid (startB_bad (by rw [ES.out, decide_eq_false (by omega)]; rfl))
    obtain rfl : V = noSt := by rw [← HSV.out, EB.out.1]
    obtain rfl : EE = 600 := by rw [← HSE.out, EB.out.2]
    obtain ⟨c0, c1, c2, c3, c4, f0, f1, f2, f3, f4⟩ := Z1.out
    go_wp2_with fail
    refine bodyPost_ret (v := .tuple #[.agg #[.slice none 0 0, .int .i64 0, .slice none 0 0, .int .i64 0, .int .i64 0], .int .i64 600]) (by simp [results, Tryz.results36, go_sem, c0, c1, c2, c3, c4]) rfl ⟨_, rfl, OwnFrs.nil _ _ _ _, below5 BB.out (by omega) _ _ _ _ _⟩
  have ESt : Hid (startB ps args fuel = true) := hid (by rw [ES.out, decide_eq_true (by omega), Bool.and_comm (lenB args fx)]; exact hn)
  obtain rfl : V = ([(0, 0, freshL nl args, [])], fuel, [], 0, 0) := by rw [← HSV.out]; unfold startV; rw [if_pos ESt.out, E3.out]; rfl
  obtain rfl : EE = 0 := by rw [← HSE.out]; unfold startE; rw [if_pos ESt.out]
  go_wp2_with fail
  refine (refFresh_any _ _ _ ps 0 nl _ _ _ args _ (HP.out.kept BB.out) (HA.out.kept BB.out) hpn (by rw [E3.out]) (by omega)).mono ?_
  rintro e w5 ⟨lv, rfl, o5, b5⟩
  have hs3 : w.heap.size + 1 < w2.heap.size := lt_of_cell Z1.out.c0
  obtain ⟨la, ln, lc, rfl, i5⟩ := ints_of_owns o5 (by rw [freshL_len]; omega)
  have hs5 := b5.size
  have hA6 : Below w5.heap.size w5 (w5.alloc (.cells #[.int .i64 0, .int .i64 0, .slice la ln lc, .slice none 0 0] 51)) := Below.alloc (Below.refl _ _) (Nat.le_refl _) _
  have B6 := hid (kt (kt BB.out b5) hA6)
  have O6 : Hid (OwnFrs 3 51 (w5.alloc (.cells #[.int .i64 0, .int .i64 0, .slice la ln lc, .slice none 0 0] 51)) (w.heap.size + 2) (.slice (some ⟨w5.heap.size, 0, none⟩) 1 1) [(0, 0, freshL nl args, [])]) := hid (ownFrs_one (by omega) (owns_base o5 (by omega)) (by rw [freshL_len]; omega) (World.ownsRow_nil _ _ _ _) (by simp))
  obtain ⟨c0, c1, c2, c3, c4, f0, f1, f2, f3, f4⟩ := (Z1.out.kept b5).kept hA6
  clear o5 b5 i5 hA6
  go_wp2_with fail
  refine bodyPost_ret (v := .tuple #[.agg #[.slice (some ⟨w5.heap.size, 0, none⟩) 1 1, .int .i64 fuel, .slice none 0 0, .int .i64 0, .int .i64 0], .int .i64 0]) (by simp [results, Tryz.results36, go_sem, c0, c1, c2, c3, c4]) rfl ⟨_, rfl, (O6.out.set5 (by omega) _ _ _ _ _).base (by omega), below5 B6.out (by omega) _ _ _ _ _⟩

end Go.Proofs.YtcngmkbgcfhmdaaGreatDoor

namespace Go.Proofs.YtcngmkbgcfhmdaaGreatDoor
open Go.RowKit
set_option linter.unusedVariables false

def allocs (u : World) : List Obj → World
  | [] => u
  | o :: r => allocs (u.alloc o) r
theorem allocs_below (u : World) (bs : List Obj) : Below u.heap.size u (allocs u bs) := by
  induction bs generalizing u with
  | nil => exact Below.refl _ _
  | cons o r ih => exact kt (Below.alloc (Below.refl _ _) (Nat.le_refl _) o) (ih (u.alloc o))
theorem allocs_size (u : World) (bs : List Obj) : (allocs u bs).heap.size = u.heap.size + bs.length := by
  induction bs generalizing u with
  | nil => rfl
  | cons o r ih => show (allocs (u.alloc o) r).heap.size = _; rw [ih]; simp; omega
theorem allocs_cell (u : World) (bs : List Obj) (i : Nat) (c : Array Value) (t : TypeId) (h : bs[i]? = some (.cells c t)) (o : Nat) (v : Value) (hv : c[o]? = some v) : (allocs u bs).cell? ⟨u.heap.size + i, o, none⟩ = some v := by
  induction bs generalizing u i with
  | nil => simp at h
  | cons b r ih =>
    cases i with
    | zero =>
      have e : b = .cells c t := by simpa using h
      subst e
      refine kept_cell (allocs_below (u.alloc (.cells c t)) r) (b := u.heap.size + 0) ?_
      rw [World.cell?_alloc_at _ _ _ _ (by simp)]; exact hv
    | succ i =>
      have := ih (u.alloc b) i (by simpa using h)
      simp only [World.size_alloc] at this
      rw [show u.heap.size + (i + 1) = u.heap.size + 1 + i by omega]
      exact this
theorem allocs_inss (u : World) (bs : List Obj) (i : Nat) (l : List (Int × Int)) (t : TypeId) (h : bs[i]? = some (.cells (flat2 l).toArray t)) (hl : l.length * 16 ≤ 140737488351232) : Inss (allocs u bs) (some ⟨u.heap.size + i, 0, none⟩) l.length l.length l := by
  refine ⟨rfl, Nat.le_refl _, hl, fun e => (by cases e), fun hn => ⟨u.heap.size + i, 0, rfl, fun j hj => ⟨?_, ?_⟩⟩⟩
  · exact allocs_cell u bs i _ t h _ _ (by rw [Nat.zero_add]; simpa using flat2_even l j hj)
  · exact allocs_cell u bs i _ t h _ _ (by rw [Nat.zero_add]; simpa using flat2_odd l j hj)
theorem wp_world {P : Program} {c : Code} {Q : Exit → Act → World → Prop} {a : Act} {W U : World} (h : U = W) (k : Code.wp P c Q a U) : Code.wp P c Q a W := h ▸ k
/-- Two functions in a row. -/
theorem fns_two {w : World} {g : Nat} {x y x' y' : Int} {a a' : Option Addr} {n c n' c' : Nat} {l l' : List (Int × Int)} (h : Inss w a n c l) (h' : Inss w a' n' c' l') (c0 : w.cell? ⟨g, 0, none⟩ = some (.int .i64 x)) (c1 : w.cell? ⟨g, 1, none⟩ = some (.int .i64 y)) (c2 : w.cell? ⟨g, 2, none⟩ = some (.slice a n c))
    (c3 : w.cell? ⟨g, 3, none⟩ = some (.int .i64 x')) (c4 : w.cell? ⟨g, 4, none⟩ = some (.int .i64 y')) (c5 : w.cell? ⟨g, 5, none⟩ = some (.slice a' n' c')) : Fns w (some ⟨g, 0, none⟩) 2 2 [(x, y, l), (x', y', l')] := by
  refine ⟨rfl, Nat.le_refl _, by omega, fun e => (by cases e), fun _ => ⟨g, 0, rfl, fun i hi => ?_⟩⟩
  rcases (show i = 0 ∨ i = 1 by simp at hi; omega) with rfl | rfl
  · exact ⟨c0, c1, a, n, c, c2, h⟩
  · exact ⟨c3, c4, a', n', c', c5, h'⟩

end Go.Proofs.YtcngmkbgcfhmdaaGreatDoor

namespace Go.Proofs.YtcngmkbgcfhmdaaGreatDoor
open Go.RowKit
set_option linter.unusedVariables false
attribute [local go_sem ↓] Go.wp_at_zero Go.wp_at_succ

theorem ints_lit (w : World) (l : List Int) (t : TypeId) (hl : l.length * 8 ≤ 140737488351232) : Ints (w.alloc (.cells (ints l).toArray t)) (some ⟨w.heap.size, 0, none⟩) l.length l.length l := by
  have h := World.ownsRow_lit (e := t) (size := 1) (base := 0) w (ints l).toArray l.length (Nat.zero_le _) (by unfold maxLen; omega) (by simp [ints_len])
  obtain ⟨a, n, c, e, hi⟩ := ints_of_owns (l := l) (by simpa using h) hl
  cases e
  exact hi
theorem ints_new {u : World} {H n : Nat} {l : List Int} {cs : Array Value} {t : TypeId} (hH : u.heap.size = H) (hcs : cs = (ints l).toArray) (hn : n = l.length) (hl : l.length * 8 ≤ 140737488351232) : Ints (u.alloc (.cells cs t)) (some ⟨H, 0, none⟩) n n l := by
  subst hH
  subst hcs
  subst hn
  exact ints_lit u l t hl
/-- One function in a row of its own. -/
theorem fns_one {w : World} {a : Option Addr} {n c : Nat} {l : List (Int × Int)} (h : Inss w a n c l) (x y : Int) (t : TypeId) : Fns (w.alloc (.cells #[.int .i64 x, .int .i64 y, .slice a n c] t)) (some ⟨w.heap.size, 0, none⟩) 1 1 [(x, y, l)] := by
  refine ⟨rfl, Nat.le_refl _, by omega, fun e => (by cases e), fun _ => ⟨w.heap.size, 0, rfl, fun i hi => ?_⟩⟩
  have h0 : i = 0 := by simpa using hi
  subst h0
  exact ⟨by simp [go_sem], by simp [go_sem], a, n, c, by simp [go_sem], h.kept (Below.alloc (Below.refl _ _) (Nat.le_refl _) _)⟩

def oneC : List (Int × Int) := [(1, 0), (0, 2), (14, 1), (10, 0), (15, 0), (16, 0)]
def addC : List (Int × Int) := [(1, 0), (1, 1), (3, 0), (16, 0)]
def twoL : List Fn := [(1, 1, oneC), (2, 2, addC)]

/-- The first state of that program, with 5 and fuel 9; the two frames of the statements' state. -/
def frT0 : Fr := (0, 3, [5], [])
def frT1 : Fr := (1, 2, [5, 2], [5, 2])
theorem two_s : startV twoL [5] 9 = ([(0, 0, [5], [])], 9, [], 0, 0) ∧ startE twoL [5] 9 = 0 := by decide +kernel
theorem two_f : startV twoL [] 9 = ([], 0, [], 0, 0) ∧ startE twoL [] 9 = 600 := by decide +kernel
theorem two_g : startV twoL [5] (-1) = ([], 0, [], 0, 0) ∧ startE twoL [5] (-1) = 600 := by decide +kernel
theorem two_st : stateB twoL ([(0, 0, [5], [])], 9, [], 0, 0) = true := by decide +kernel
theorem two_t : stateB twoL ([frT0, frT1], 4, [], 0, 0) = true := by decide +kernel
theorem two_bad : stateB twoL ([(0, 2, [5], []), frT1], 4, [], 0, 0) = false := by decide +kernel
theorem two_m1 : mayFr twoL frT1 = true := by decide +kernel
theorem two_m0 : mayFr twoL frT0 = false := by decide +kernel

theorem frs_one {w : World} {la sa : Option Addr} {ln lc sn sc : Nat} {ll sl : List Int} (h : Ints w la ln lc ll) (h' : Ints w sa sn sc sl) (x y : Int) (t : TypeId) : Frs (w.alloc (.cells #[.int .i64 x, .int .i64 y, .slice la ln lc, .slice sa sn sc] t)) (some ⟨w.heap.size, 0, none⟩) 1 1 [(x, y, ll, sl)] := by
  refine ⟨rfl, Nat.le_refl _, by omega, fun e => (by cases e), fun _ => ⟨w.heap.size, 0, rfl, fun i hi => ?_⟩⟩
  have h0 : i = 0 := by simpa using hi
  subst h0
  have A : Below w.heap.size w (w.alloc (.cells #[.int .i64 x, .int .i64 y, .slice la ln lc, .slice sa sn sc] t)) := Below.alloc (Below.refl _ _) (Nat.le_refl _) _
  exact ⟨by simp [go_sem], by simp [go_sem], ⟨la, ln, lc, by simp [go_sem], h.kept A⟩, sa, sn, sc, by simp [go_sem], h'.kept A⟩
/-- Two frames in a row. -/
theorem frs_two {w : World} {g : Nat} {x y x' y' : Int} {la sa la' sa' : Option Addr} {ln lc sn sc ln' lc' sn' sc' : Nat} {ll sl ll' sl' : List Int} (h : Ints w la ln lc ll) (k : Ints w sa sn sc sl) (h' : Ints w la' ln' lc' ll') (k' : Ints w sa' sn' sc' sl')
    (c0 : w.cell? ⟨g, 0, none⟩ = some (.int .i64 x)) (c1 : w.cell? ⟨g, 1, none⟩ = some (.int .i64 y)) (c2 : w.cell? ⟨g, 2, none⟩ = some (.slice la ln lc)) (c3 : w.cell? ⟨g, 3, none⟩ = some (.slice sa sn sc))
    (c4 : w.cell? ⟨g, 4, none⟩ = some (.int .i64 x')) (c5 : w.cell? ⟨g, 5, none⟩ = some (.int .i64 y')) (c6 : w.cell? ⟨g, 6, none⟩ = some (.slice la' ln' lc')) (c7 : w.cell? ⟨g, 7, none⟩ = some (.slice sa' sn' sc')) :
    Frs w (some ⟨g, 0, none⟩) 2 2 [(x, y, ll, sl), (x', y', ll', sl')] := by
  refine ⟨rfl, Nat.le_refl _, by omega, fun e => (by cases e), fun _ => ⟨g, 0, rfl, fun i hi => ?_⟩⟩
  rcases (show i = 0 ∨ i = 1 by simp at hi; omega) with rfl | rfl
  · exact ⟨c0, c1, ⟨la, ln, lc, c2, h⟩, sa, sn, sc, c3, k⟩
  · exact ⟨c4, c5, ⟨la', ln', lc', c6, h'⟩, sa', sn', sc', c7, k'⟩
theorem allocs_ints (u : World) (bs : List Obj) (i : Nat) (l : List Int) (t : TypeId) (h : bs[i]? = some (.cells (ints l).toArray t)) (hl : l.length * 8 ≤ 140737488351232) : Ints (allocs u bs) (some ⟨u.heap.size + i, 0, none⟩) l.length l.length l := by
  refine ⟨rfl, Nat.le_refl _, hl, fun e => (by cases e), fun hn => ⟨u.heap.size + i, 0, rfl, fun j hj => ?_⟩⟩
  exact allocs_cell u bs i _ t h _ _ (by rw [Nat.zero_add]; simpa using ints_at l j hj)
theorem flat4_set (t : List (Int × Int × Value × Value)) (q : Nat) (z : Int) (hq : q < t.length) : (flat4 t).set (q * 4 + 1) (.int .i64 z) = flat4 (t.set q ((t.getD q noU).1, z, (t.getD q noU).2.2.1, (t.getD q noU).2.2.2)) := by
  induction t generalizing q with
  | nil => simp at hq
  | cons p r ih =>
    cases q with
    | zero => simp [flat4]
    | succ q =>
      have := ih q (by simpa using hq)
      rw [show (q + 1) * 4 + 1 = (q * 4 + 1) + 1 + 1 + 1 + 1 by omega]
      simpa [flat4] using this
/-- A frame's pc is written over. -/
theorem OwnFrs.setPc {e f : Nat} (hef : e ≠ f) {w : World} {base g n c : Nat} {l : List Fr} (h : OwnFrs e f w base (.slice (some ⟨g, 0, none⟩) n c) l) (q : Nat) (hq : q < l.length) (z : Int) :
    OwnFrs e f (w.setCell ⟨g, q * 4 + 1, none⟩ (.int .i64 z)) base (.slice (some ⟨g, 0, none⟩) n c) (l.set q ((l.getD q noFr).1, z, (l.getD q noFr).2.2.1, (l.getD q noFr).2.2.2)) := by
  obtain ⟨t, h1, h2, h3⟩ := h
  obtain rfl : n = l.length := by
    rcases h2.2 with ⟨e0, _⟩ | ⟨_, _, _, e0, _⟩
    · cases e0
    · cases e0; rfl
  have fr : Frm (fun k => k = g) w (w.setCell ⟨g, q * 4 + 1, none⟩ (.int .i64 z)) := Frm.set _ rfl
  have apart : ∀ {v : Value} {k : Nat} {xs : List Value}, w.ownsRow base e 1 v k xs → (w.setCell ⟨g, q * 4 + 1, none⟩ (.int .i64 z)).ownsRow base e 1 v k xs := by
    intro v k xs ho
    refine fr.owns ho (fun b hb hbg => ?_)
    rcases owns_apart ho h2 hef with h0 | h0
    · rw [h0] at hb; cases hb
    · rw [hb, hbg] at h0; exact h0 rfl
  refine ⟨t.set q ((t.getD q noU).1, z, (t.getD q noU).2.2.1, (t.getD q noU).2.2.2), by simp [h1], ?_, fun i hi => ?_⟩
  · have := (h2.stored (q * 4 + 1) (.int .i64 z)).1
    rw [flat4_set t q z (by omega)] at this
    simpa using this
  · rw [List.length_set] at hi
    obtain ⟨k1, k2, ⟨k3, k4⟩, k5, k6⟩ := h3 i hi
    by_cases e0 : i = q
    · subst e0
      have et : ∀ a : Int × Int × Value × Value, (t.set i a).getD i noU = a := fun a => by simp [List.getD_eq_getElem?_getD, h1, hi]
      have el : ∀ a : Fr, (l.set i a).getD i noFr = a := fun a => by simp [List.getD_eq_getElem?_getD, hi]
      rw [et, el]
      exact ⟨k1, rfl, ⟨k3, apart k4⟩, k5, apart k6⟩
    · have et : ∀ a : Int × Int × Value × Value, (t.set q a).getD i noU = t.getD i noU := fun a => by simp [List.getD_eq_getElem?_getD, List.getElem?_set_ne (Ne.symm e0)]
      have el : ∀ a : Fr, (l.set q a).getD i noFr = l.getD i noFr := fun a => by simp [List.getD_eq_getElem?_getD, List.getElem?_set_ne (Ne.symm e0)]
      rw [et, el]
      exact ⟨k1, k2, ⟨k3, apart k4⟩, k5, apart k6⟩

theorem calls_world {P : Program} {f : FuncId} {args : Array Value} {W U : World} {Q : Ending → World → Prop} (h : U = W) (k : Calls P f args U Q) : Calls P f args W Q := h ▸ k

end Go.Proofs.YtcngmkbgcfhmdaaGreatDoor

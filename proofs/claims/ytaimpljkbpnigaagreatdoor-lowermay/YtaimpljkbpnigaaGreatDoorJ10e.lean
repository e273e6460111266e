/- Package calls: the table of a verified program (calls.Of). Package calls: what the table of a verified program tells (IsFunc, Func, Height, Runs, IsCall, Waits). Package calls: Waits. -/
import Derived.Test.YtaimpljkbpnigaaGreatDoorMemFr
import Derived.Test.YtaimpljkbpnigaaGreatDoorVerDev
import Derived.Test.YtaimpljkbpnigaaGreatDoorJ6b
import Derived.Deep.RegionHeld3
namespace Go.Proofs.YtaimpljkbpnigaaGreatDoor
open Go.RowKit
set_option linter.unusedVariables false

theorem Tryz.infoInts : (Tryz.prog.info? 42).map (fun i => (i.zero, i.size, i.bytes)) = some (some (.slice none 0 0), 1, 24) := by kernel_rfl

/-- A block's two cells. -/
structure Ck (w : World) (b : Nat) (u v : Value) : Prop where
  c0 : w.cell? ⟨b, 0, none⟩ = some u
  c1 : w.cell? ⟨b, 1, none⟩ = some v
  f0 : w.frozen? ⟨b, 0, none⟩ = false
  f1 : w.frozen? ⟨b, 1, none⟩ = false
theorem Ck.kept {w w' : World} (hb : Below w.heap.size w w') {b : Nat} {u v : Value} (h : Ck w b u v) : Ck w' b u v :=
  ⟨kept_cell hb h.c0, kept_cell hb h.c1, by rw [hb.frozen (lt_of_cell h.c0)]; exact h.f0, by rw [hb.frozen (lt_of_cell h.c1)]; exact h.f1⟩

set_option maxRecDepth 100000 in
set_option maxHeartbeats 2000000 in
theorem callsOf_any (pa : Option Addr) (pn pc : Nat) (ps : List Fn) (w : World) (hp : Fns w pa pn pc ps) (ld : Ld w) :
    Calls Tryz.prog 20 #[.agg #[.slice pa pn pc]] w fun e w' => Below w.heap.size w w' ∧
      ((verV ps = 0 ∧ ∃ ha hn hc, e = .returned (.tuple #[.agg #[.slice pa pn pc, .slice ha hn hc], .bool true]) ∧ Hts w' ha hn hc (htsAll ps)) ∨ (¬ verV ps = 0 ∧ ∃ a n c a' n' c', e = .returned (.tuple #[.agg #[.slice a n c, .slice a' n' c'], .bool false]))) := by
  obtain ⟨i0, hi, hz0, hz1, hz2⟩ := info_parts Tryz.infoInts
  have L := hid hp.len
  have hr := hp.room
  have hcp := hp.cap
  have HP := hid hp
  have LD := hid ld
  clear hp ld
  go_enter Tryz.func20, Tryz.ntmps20
  go_wp2_with fail
  go_loopw [15] (fun i wr => ∃ q : Nat, q ≤ pn ∧ i = .int .i64 q ∧ wr.cell? ⟨w.heap.size, 0, none⟩ = some (.slice pa pn pc) ∧ Ck wr (w.heap.size + 1) (.slice none 0 0) (.slice none 0 0) ∧
      (∃ va vn vc, Ck wr (w.heap.size + 1 + 1) (.slice pa pn pc) (.slice va vn vc) ∧ OwnHts 3 42 wr (w.heap.size + 3) (.slice va vn vc) ((htsAll ps).take q)) ∧ (∀ j, j < q → (htsV ps (j : Int)).2.2 = 0) ∧ Below w.heap.size w wr) (fun i _ => pn - (intOf i).toNat)
  case atStart => exact ⟨0, Nat.zero_le _, rfl, by simp [go_sem], ⟨by simp [go_sem], by simp [go_sem], by simp [go_sem], by simp [go_sem]⟩, ⟨_, _, _, ⟨by simp [go_sem], by simp [go_sem], by simp [go_sem], by simp [go_sem]⟩, OwnHts.nil _ _ _ _⟩, fun j hj => absurd hj (by omega), by go_grown⟩
  case round =>
    obtain ⟨q, hq, rfl, g0, k1, ⟨va, vn, vc, k2, ho⟩, hall, hb⟩ := hrel
    have hs := hb.size
    by_cases hlt : q < pn
    · go_wp2_with fail
      refine (verHeights _ _ _ ps (q : Int) _ (HP.out.kept hb) (LD.out.up hb)).mono ?_
      rintro e w1 ⟨v1, rfl, o1, b1⟩
      have hlen1 := hts_len (ps := ps) (fn := (q : Int))
      obtain ⟨a1, n1, c1, rfl, i1⟩ := ints_of_owns o1 (by omega)
      by_cases he : (htsV ps (q : Int)).2.2 = 0
      · rw [he]
        have HE := hid he
        have HA := hid hall
        have K1 := hid k1
        have K2 := hid k2
        have G0 := hid g0
        have B1 := hid b1
        have hs1 := b1.size
        have hlt2 := lt_of_cell k2.c0
        have hB5 : Below wr.heap.size wr (w1.alloc (.cells #[.slice a1 n1 c1] 42)) := kt b1 (Below.alloc (Below.refl _ _) (Nat.le_refl _) _)
        obtain ⟨t, ht1, ht2, ht3⟩ := ho
        have hlen : ((htsAll ps).take q).length = q := by rw [List.length_take, htsAll_len]; have := L.out; omega
        rw [hlen] at ht1 ht2 ht3
        have HO5 := hid (owns_kept ht2 hB5)
        have HC5 : Hid ((w1.alloc (.cells #[.slice a1 n1 c1] 42)).ownsRow (w.heap.size + 3) 3 1 (.slice a1 n1 c1) (htsV ps (q : Int)).1.length (ints (htsV ps (q : Int)).1)) := hid (owns_base (o1.alloc _) (by have := lt_of_cell k2.c0; omega))
        have H3 := hid (fun i (hi : i < q) => (⟨(ht3 i hi).1, owns_kept (ht3 i hi).2 hB5⟩ : (((htsAll ps).take q).getD i []).length * 8 ≤ 140737488351232 ∧ World.ownsRow _ (w.heap.size + 3) 3 1 (t.getD i undef) (((htsAll ps).take q).getD i []).length (ints (((htsAll ps).take q).getD i []))))
        have hnews := World.news_of_block (heap_alloc_new w1 (.cells #[.slice a1 n1 c1] 42))
        have HN := hid (fun b (hb : b < w.heap.size + 3) (h : some b = (Value.slice va vn vc).ownBlock) => (by have := (HO5.out.lt _ h.symm).1; omega : False))
        have J := hid (And.intro (kept_cell hB5 g0) (And.intro (k1.kept hB5) (k2.kept hB5)))
        have HT1 := hid ht1
        have HL := hid hlen
        have HB5 := hid hB5
        have q2 := (k2.kept b1).c1
        have p0 := kept_cell b1 g0
        clear hB5 ht1 ht2 ht3 hlen o1 i1 b1 he hall k1 k2 g0
        go_wp2_with (at_builtin; go_must ((refine wpList_append_lies _ rfl _ _ 66 rfl (w.heap.size + 3) 42 i0 (.slice none 0 0) 1 24 Tryz.underlying66 hi hz0 hz1 hz2 rfl (by decide) (.slice va vn vc) q t rfl HO5.out ⟨w1.heap.size, 0, none⟩ 1 1 [.slice a1 n1 c1] rfl rfl hnews (by intro u hu; simp at hu; rcases hu with rfl; rfl) (by decide) (by unfold maxLen; omega) (by omega) (by simp; omega) (w1.heap.size + 1) (by simp) ?_; intro g cap w6 ho6 hg6 hat hlt6; have j0 := hg6.cell J.out.1 (HN.out w.heap.size (by omega)); have j1 := hg6.cell J.out.2.1.c0 (HN.out (w.heap.size + 1) (by omega)); have j2 := hg6.cell J.out.2.1.c1 (HN.out (w.heap.size + 1) (by omega)); have j3 := hg6.cell J.out.2.2.c0 (HN.out (w.heap.size + 1 + 1) (by omega)); have j4 := hg6.cell J.out.2.2.c1 (HN.out (w.heap.size + 1 + 1) (by omega)); have f1 := (hg6.frozen_far ⟨w.heap.size + 1, 0, none⟩ (lt_of_cell J.out.2.1.c0) (HN.out (w.heap.size + 1) (by omega))).trans J.out.2.1.f0; have f2 := (hg6.frozen_far ⟨w.heap.size + 1, 1, none⟩ (lt_of_cell J.out.2.1.c1) (HN.out (w.heap.size + 1) (by omega))).trans J.out.2.1.f1; have f3 := (hg6.frozen_far ⟨w.heap.size + 1 + 1, 0, none⟩ (lt_of_cell J.out.2.2.c0) (HN.out (w.heap.size + 1 + 1) (by omega))).trans J.out.2.2.f0; have f4 := (hg6.frozen_far ⟨w.heap.size + 1 + 1, 1, none⟩ (lt_of_cell J.out.2.2.c1) (HN.out (w.heap.size + 1 + 1) (by omega))).trans J.out.2.2.f1; have P := hid (And.intro ho6 (And.intro hg6 hlt6)); clear ho6 hg6 hat hlt6)))
        go_roundw
        case rel =>
          obtain ⟨p1, p2, p3⟩ := P.out
          refine ⟨q + 1, by omega, by go_num, cell_set_far j0 (by simp; omega), ⟨cell_set_far j1 (by simp), cell_set_far j2 (by simp), by simp [f1], by simp [f2]⟩, ⟨_, _, _, ⟨by rw [World.cell?_setCell_other _ _ _ _ (by simp)]; exact j3, World.cell?_setCell_same _ _ _ j4, by simp [f3], by simp [f4]⟩, ?_⟩, ?_, ?_⟩
          · rw [htsAll_take (by have := L.out; omega)]
            exact (OwnHts.snoc (by decide) HL.out HT1.out HO5.out H3.out HC5.out (by omega) p1 p2).set _ _ (by simp)
          · intro j hj
            rcases Nat.lt_or_ge j q with h | h
            · exact HA.out j h
            · have : j = q := by omega
              rw [this]; exact HE.out
          · exact Below.setCell (Below.grown (hb.trans (HB5.out.mono hs)) p2 (by have := HB5.out.size; omega) (fun k hk => by have := (HO5.out.lt k hk).1; omega)) (by simp; omega) _
        case measure => simp [intOf]; omega
      · have he' : ((htsV ps (q : Int)).2.2 != 0) = true := by simp [he]
        have K1 := k1.kept b1
        obtain ⟨j1, j2, f1, f2⟩ := K1
        have HB := hid (kt hb b1)
        have HV := hid (ver_bad (ps := ps) (i := q) (by have := L.out; omega) he)
        clear o1 i1 b1 he hall k1 k2 g0 ho
        go_wp2_with fail
        refine bodyPost_ret (v := .tuple #[.agg #[.slice none 0 0, .slice none 0 0], .bool false]) (by simp [results, Tryz.results20, go_sem, j1, j2]) rfl ⟨?_, .inr ⟨HV.out, _, _, _, _, _, _, rfl⟩⟩
        exact ((HB.out.setCell (by simp) _).setCell (by simp) _)
    · have hqn : q = pn := by omega
      subst hqn
      obtain ⟨j1, j2, f1, f2⟩ := k1
      obtain ⟨j3, j4, f3, f4⟩ := k2
      have HO := hid ho
      have HA := hid hall
      clear ho hall
      by_cases h0 : 0 < q
      · have HV : Hid (verV ps = 0) := hid (ver_all (by rw [← L.out]; exact h0) (fun i hi => HA.out i (by rw [L.out]; exact hi)))
        have hvn : vn = q := by
          obtain ⟨t, _, ht2, _⟩ := HO.out
          have e : ((htsAll ps).take q).length = q := by rw [List.length_take, htsAll_len]; have := L.out; omega
          rw [e] at ht2
          rcases ht2.2 with ⟨e0, e1⟩ | ⟨g, cap, cur, e0, _⟩
          · omega
          · cases e0; rfl
        subst hvn
        have hl8 := ver_some HV.out
        have hq8 : vn ≤ 8 := by rw [L.out]; exact hl8.2
        have RD := hid (HO.out)
        rw [List.take_of_length_le (by rw [htsAll_len, ← L.out]; exact Nat.le_refl _)] at RD
        go_wp2_with fail
        go_region
        all_goals
          go_wp2_with fail
          obtain ⟨ha, hn, hc, e9, r9⟩ := ((RD.out.set ⟨w.heap.size + 1, 0, none⟩ (.slice pa vn pc) (by simp)).set ⟨w.heap.size + 1, 1, none⟩ (.slice va vn vc) (by simp)).reads (by rw [htsAll_len]; omega)
          cases e9
          refine bodyPost_ret (v := .tuple #[.agg #[.slice pa vn pc, .slice va vn vc], .bool true]) (by simp [results, Tryz.results20, go_sem, j1, j2]) rfl ⟨?_, .inl ⟨HV.out, _, _, _, rfl, ?_⟩⟩
          · exact (((hb.setCell (p := ⟨w.heap.size + 1, 0, none⟩) (by simp) (.slice pa vn pc)).setCell (p := ⟨w.heap.size + 1, 1, none⟩) (by simp) (.slice va vn vc)).drew)
          · exact r9.kept (Below.drew (Below.refl _ _))
      · have HV : Hid (¬ verV ps = 0) := hid (fun h => by have := ver_some h; have := L.out; omega)
        have hq0 : q = 0 := by omega
        subst hq0
        have hvn : vn = 0 := by
          obtain ⟨t, _, ht2, _⟩ := HO.out
          rw [List.take_zero] at ht2
          rcases ht2.2 with ⟨e0, e1⟩ | ⟨g, cap, cur, e0, _⟩
          · cases e0; rfl
          · cases e0; rfl
        subst hvn
        go_wp2_with fail
        go_region
        all_goals
          go_wp2_with fail
          refine bodyPost_ret (v := .tuple #[.agg #[.slice pa 0 pc, .slice va 0 vc], .bool false]) (by simp [results, Tryz.results20, go_sem, j1, j2]) rfl ⟨?_, .inr ⟨HV.out, _, _, _, _, _, _, rfl⟩⟩
          exact (((hb.setCell (p := ⟨w.heap.size + 1, 0, none⟩) (by simp) (.slice pa 0 pc)).setCell (p := ⟨w.heap.size + 1, 1, none⟩) (by simp) (.slice va 0 vc)).drew)

end Go.Proofs.YtaimpljkbpnigaaGreatDoor

namespace Go.Proofs.YtaimpljkbpnigaaGreatDoor
open Go.RowKit
set_option linter.unusedVariables false

theorem reached_eq {ps : List Fn} {f q : Nat} (hv : verV ps = 0) (hf : f < ps.length) {hl : List Int} (e : (htsAll ps).getD f [] = hl) (hq : q < hl.length) : heightV ps (f : Int) (q : Int) = hl.getD q 0 := by
  rw [htsAll_at hf] at e
  rw [height_at (ver_at hv hf) (by rw [e]; exact hq), e]
theorem reached_off {ps : List Fn} {f : Nat} {x : Int} (hf : f < ps.length) {hl : List Int} (e : (htsAll ps).getD f [] = hl) (hq : x < 0 ∨ (hl.length : Int) ≤ x) : reachedB ps (f : Int) x = false := by
  rw [htsAll_at hf] at e
  unfold reachedB
  rw [height_out (by rw [e]; simp [inB]; omega)]
  rfl
/-- A field of a function by value. -/
theorem Tryz.fieldArgs (x y : Int) (a : Option Addr) (n c : Nat) (w : World) : (Instr.field 51 (.agg #[.int .i64 x, .int .i64 y, .slice a n c]) 0).run Tryz.prog w = .ok (.int .i64 x) w := by kernel_rfl
theorem Tryz.fieldLocals (x y : Int) (a : Option Addr) (n c : Nat) (w : World) : (Instr.field 51 (.agg #[.int .i64 x, .int .i64 y, .slice a n c]) 1).run Tryz.prog w = .ok (.int .i64 y) w := by kernel_rfl
/-- A height that is told. -/
def hgtV (ps : List Fn) (fn pc : Int) : Int := if reachedB ps fn pc = true then heightV ps fn pc else 0
/-- May a call with so many locals, and so many on its stack, be about to do what is at pc? -/
def runB (ps : List Fn) (fn pc : Int) (ln sn : Int) : Bool := reachedB ps fn pc && (decide (ln = (ps.getD fn.toNat noFn).2.1) && decide (sn = heightV ps fn pc))
def isCallB (ps : List Fn) (fn pc called : Int) : Bool := reachedB ps fn pc && decide (insAt (ps.getD fn.toNat noFn).2.2 pc.toNat = (14, called))
theorem reached_small {ps : List Fn} {fn : Int} {q : Nat} (h : 0 ≤ heightV ps fn (q : Int)) : q < 64 := by
  obtain ⟨f, q', rfl, e, hf, hq, he, _, _⟩ := reached_in h
  have : q = q' := by omega
  subst this
  have hpk := (hts_ok he).1
  generalize e3 : ps.getD f noFn = F at hq
  obtain ⟨fx, fy, fl⟩ := F
  have hvf := fnB_bd (fnB_of hpk hf e3)
  have hq' : q < fl.length := hq
  omega
theorem ret_hgt {a a' : Int} {b b' : Bool} (h : a = a') (k : b = b') : Ending.returned (.tuple #[.int .i64 a, .bool b]) = .returned (.tuple #[.int .i64 a', .bool b']) := by rw [h, k]
theorem hgt_no {ps : List Fn} {fn pc : Int} (h : reachedB ps fn pc = false) : hgtV ps fn pc = 0 := by unfold hgtV; rw [h]; rfl
theorem hgt_yes {ps : List Fn} {fn pc : Int} (h : reachedB ps fn pc = true) : hgtV ps fn pc = heightV ps fn pc := by unfold hgtV; rw [if_pos h]

set_option maxHeartbeats 1000000 in
theorem isFunc_any (pa : Option Addr) (pn pc : Nat) (ha : Option Addr) (hn hc : Nat) (fn : Int) (w : World) (hr : pn * 40 ≤ 140737488351232) :
    Calls Tryz.prog 21 #[.agg #[.slice pa pn pc, .slice ha hn hc], .int .i64 fn] w fun e w' => e = .returned (.bool (inB pn fn)) ∧ Below w.heap.size w w' := by
  by_cases h0 : 0 ≤ fn
  · by_cases h1 : fn < (pn : Int)
    · have E : Hid (inB pn fn = true) := hid (by simp [inB]; omega)
      go_enter Tryz.func21, Tryz.ntmps21
      go_wp2_with fail
      go_ret
      exact ⟨ret_bool E.out.symm, by go_grown⟩
    · have E : Hid (inB pn fn = false) := hid (by simp [inB]; omega)
      go_enter Tryz.func21, Tryz.ntmps21
      go_wp2_with fail
      go_ret
      exact ⟨ret_bool E.out.symm, by go_grown⟩
  · have E : Hid (inB pn fn = false) := hid (by simp [inB]; omega)
    go_enter Tryz.func21, Tryz.ntmps21
    go_wp2_with fail
    go_ret
    exact ⟨ret_bool E.out.symm, by go_grown⟩

set_option maxHeartbeats 1000000 in
theorem tabFunc_any (pa : Option Addr) (pn pc : Nat) (ha : Option Addr) (hn hc : Nat) (ps : List Fn) (f : Nat) (w : World) (hp : Fns w pa pn pc ps) (hf : f < pn) :
    Calls Tryz.prog 38 #[.agg #[.slice pa pn pc, .slice ha hn hc], .int .i64 (f : Int)] w fun e w' => ∃ x y fa fn fc fl, e = .returned (.agg #[.int .i64 x, .int .i64 y, .slice fa fn fc]) ∧ ps.getD f noFn = (x, y, fl) ∧ Inss w fa fn fc fl ∧ Below w.heap.size w w' := by
  have hpr := hp.room
  have hpc := hp.cap
  obtain ⟨b0, o0, x, y, fa, fn, fc, fl, rfl, e3, d0, d1, d2, i3⟩ := hp.at f hf
  have z0 := lt_of_cell d0
  have z1 := lt_of_cell d1
  have z2 := lt_of_cell d2
  have E := hid (And.intro e3 i3)
  clear e3 i3 hp
  go_enter Tryz.func38, Tryz.ntmps38
  go_wp2_with fail
  refine bodyPost_ret (v := .agg #[.int .i64 x, .int .i64 y, .slice fa fn fc]) (by simp [results, Tryz.results38, go_sem]) rfl ⟨x, y, fa, fn, fc, fl, rfl, E.out.1, E.out.2, ?_⟩
  go_grown

set_option maxRecDepth 100000 in
set_option maxHeartbeats 4000000 in
theorem tabHeight_any (pa : Option Addr) (pn pc : Nat) (ha : Option Addr) (hn hc : Nat) (ps : List Fn) (fn x : Int) (w : World) (hp : Fns w pa pn pc ps) (hh : Hts w ha hn hc (htsAll ps)) (hv : verV ps = 0) :
    Calls Tryz.prog 23 #[.agg #[.slice pa pn pc, .slice ha hn hc], .int .i64 fn, .int .i64 x] w fun e w' => e = .returned (.tuple #[.int .i64 (hgtV ps fn x), .bool (reachedB ps fn x)]) ∧ Below w.heap.size w w' := by
  have LP := hid hp.len
  have L : Hid (hn = ps.length) := hid (by rw [hh.len, htsAll_len])
  have hpr := hp.room
  have hr := hh.room
  have hcp := hh.cap
  have HV := hid hv
  have HH := hid hh
  clear hv hp hh
  go_enter Tryz.func23, Tryz.ntmps23
  go_wp2_with fail
  refine (isFunc_any _ _ _ _ _ _ _ _ hpr).mono ?_
  rintro e U ⟨rfl, bU⟩
  have B : Hid (Below w.heap.size w U) := hid (kt (by go_grown) bU)
  have p0 := kept_cell bU (b := w.heap.size) (o := 0) (v := .slice pa pn pc) (by simp [go_sem])
  have p1 := kept_cell bU (b := w.heap.size) (o := 1) (v := .slice ha hn hc) (by simp [go_sem])
  clear bU
  by_cases h0 : 0 ≤ fn ∧ fn < (pn : Int)
  rotate_left
  · have E : Hid (reachedB ps fn x = false) := hid (by unfold reachedB; rw [reached_out (by have := LP.out; omega)]; rfl)
    have E2 : inB pn fn = false := by simp [inB]; omega
    rw [E2]
    clear E2
    go_wp2_with fail
    go_ret2
    exact ⟨ret_hgt (hgt_no E.out).symm E.out.symm, B.out⟩
  have E2 : inB pn fn = true := by simp [inB]; omega
  rw [E2]
  clear E2
  obtain ⟨f, rfl⟩ : ∃ f : Nat, fn = f := ⟨fn.toNat, by omega⟩
  have hf : f < ps.length := by rw [← LP.out]; omega
  have h1 : f < hn := by rw [L.out]; exact hf
  obtain ⟨b0, o0, a1, n1, c1, rfl, d0, i1⟩ := (HH.out.kept B.out).at f h1
  generalize hg : (htsAll ps).getD f [] = hl at i1
  have HG := hid hg
  have L1 := hid i1.len
  have hr1 := i1.room
  have hc1 := i1.cap
  have i1' := hid i1
  clear hg i1 h0
  by_cases h2 : x < 0
  · have E : Hid (reachedB ps (f : Int) x = false) := hid (reached_off hf HG.out (.inl h2))
    go_wp2_with fail
    go_ret2
    exact ⟨ret_hgt (hgt_no E.out).symm E.out.symm, B.out⟩
  obtain ⟨q, rfl⟩ : ∃ q : Nat, x = q := ⟨x.toNat, by omega⟩
  by_cases h3 : q < n1
  rotate_left
  · have E : Hid (reachedB ps (f : Int) (q : Int) = false) := hid (reached_off hf HG.out (.inr (by have := L1.out; omega)))
    go_wp2_with fail
    go_ret2
    exact ⟨ret_hgt (hgt_no E.out).symm E.out.symm, B.out⟩
  obtain ⟨b2, o2, rfl, r2⟩ := i1'.out.row (by omega)
  have c2 := r2 q h3
  have E : Hid (reachedB ps (f : Int) (q : Int) = decide (0 ≤ hl.getD q 0) ∧ heightV ps (f : Int) (q : Int) = hl.getD q 0) := hid (by
    have e := reached_eq HV.out hf HG.out (by rw [← L1.out]; exact h3)
    exact ⟨by unfold reachedB; rw [e], e⟩)
  generalize hl.getD q 0 = y at c2 E
  clear r2
  by_cases hy : y < 0
  · have E3 : Hid (reachedB ps (f : Int) (q : Int) = false) := hid (by rw [E.out.1]; simp; omega)
    go_wp2_with fail
    go_ret2
    exact ⟨ret_hgt (hgt_no E3.out).symm E3.out.symm, B.out⟩
  · have E3 : Hid (reachedB ps (f : Int) (q : Int) = true) := hid (by rw [E.out.1]; simp; omega)
    go_wp2_with fail
    go_ret2
    exact ⟨ret_hgt ((hgt_yes E3.out).trans E.out.2).symm E3.out.symm, B.out⟩

set_option maxRecDepth 100000 in
set_option maxHeartbeats 4000000 in
theorem tabRuns_any (pa : Option Addr) (pn pc : Nat) (ha : Option Addr) (hn hc : Nat) (ps : List Fn) (fn x ln sn : Int) (w : World) (hp : Fns w pa pn pc ps) (hh : Hts w ha hn hc (htsAll ps)) (hv : verV ps = 0) :
    Calls Tryz.prog 80 #[.agg #[.slice pa pn pc, .slice ha hn hc], .int .i64 fn, .int .i64 x, .int .i64 ln, .int .i64 sn] w fun e w' => e = .returned (.bool (runB ps fn x ln sn)) ∧ Below w.heap.size w w' := by
  have LP := hid hp.len
  have hpr := hp.room
  have hpc := hp.cap
  have HP := hid hp
  have HH := hid hh
  have HV := hid hv
  clear hv hp hh
  go_enter Tryz.func80, Tryz.ntmps80
  go_wp2_with fail
  refine (tabHeight_any _ _ _ _ _ _ ps fn x _ (HP.out.kept (by go_grown)) (HH.out.kept (by go_grown)) HV.out).mono ?_
  rintro e U ⟨rfl, bU⟩
  have B : Hid (Below w.heap.size w U) := hid (kt (by go_grown) bU)
  have p0 := kept_cell bU (b := w.heap.size) (o := 0) (v := .slice pa pn pc) (by simp [go_sem])
  clear bU
  cases hrb : reachedB ps fn x
  · have E : Hid (runB ps fn x ln sn = false) := hid (by unfold runB; rw [hrb]; rfl)
    rw [hgt_no hrb]
    clear hrb
    go_wp2_with fail
    go_ret
    exact ⟨ret_bool E.out.symm, B.out⟩
  · have hh0 : 0 ≤ heightV ps fn x := by simpa [reachedB] using hrb
    rw [hgt_yes hrb]
    obtain ⟨f, q, rfl, rfl, hf, _, _, _, _⟩ := reached_in hh0
    have hfn : f < pn := by rw [LP.out]; exact hf
    obtain ⟨b0, o0, gx, gy, fa, fn, fc, fl, rfl, e3, d0, d1, d2, i3⟩ := (HP.out.kept B.out).at f hfn
    have E : Hid (runB ps (f : Int) (q : Int) ln sn = (decide (ln = gy) && decide (sn = heightV ps (f : Int) (q : Int)))) := hid (by unfold runB; rw [hrb, Int.toNat_natCast, e3]; rfl)
    generalize heightV ps (f : Int) (q : Int) = H at E
    clear hh0 hrb e3 d0 d2 i3 hf
    by_cases e1 : ln = gy
    · subst e1
      by_cases e2 : sn = H
      · subst e2
        go_wp2_with fail
        go_ret
        exact ⟨ret_bool (by rw [E.out]; simp), B.out⟩
      · have e2' : (sn == H) = false := by simpa using e2
        go_wp2_with fail
        go_ret
        exact ⟨ret_bool (by rw [E.out]; simp [e2]), B.out⟩
    · have e1' : (ln == gy) = false := by simpa using e1
      go_wp2_with fail
      go_ret
      exact ⟨ret_bool (by rw [E.out]; simp [e1]), B.out⟩

set_option maxRecDepth 100000 in
set_option maxHeartbeats 4000000 in
theorem tabIsCall_any (pa : Option Addr) (pn pc : Nat) (ha : Option Addr) (hn hc : Nat) (ps : List Fn) (fn x called : Int) (w : World) (hp : Fns w pa pn pc ps) (hh : Hts w ha hn hc (htsAll ps)) (hv : verV ps = 0) :
    Calls Tryz.prog 97 #[.agg #[.slice pa pn pc, .slice ha hn hc], .int .i64 fn, .int .i64 x, .int .i64 called] w fun e w' => e = .returned (.bool (isCallB ps fn x called)) ∧ Below w.heap.size w w' := by
  have LP := hid hp.len
  have hpr := hp.room
  have hpc := hp.cap
  have HP := hid hp
  have HH := hid hh
  have HV := hid hv
  clear hv hp hh
  go_enter Tryz.func97, Tryz.ntmps97
  go_wp2_with fail
  refine (tabHeight_any _ _ _ _ _ _ ps fn x _ (HP.out.kept (by go_grown)) (HH.out.kept (by go_grown)) HV.out).mono ?_
  rintro e U ⟨rfl, bU⟩
  have B : Hid (Below w.heap.size w U) := hid (kt (by go_grown) bU)
  have p0 := kept_cell bU (b := w.heap.size) (o := 0) (v := .slice pa pn pc) (by simp [go_sem])
  clear bU
  cases hrb : reachedB ps fn x
  · have E : Hid (isCallB ps fn x called = false) := hid (by unfold isCallB; rw [hrb]; rfl)
    rw [hgt_no hrb]
    clear hrb
    go_wp2_with fail
    go_ret
    exact ⟨ret_bool E.out.symm, B.out⟩
  · have hh0 : 0 ≤ heightV ps fn x := by simpa [reachedB] using hrb
    rw [hgt_yes hrb]
    obtain ⟨f, q, rfl, rfl, hf, hq, _, _, _⟩ := reached_in hh0
    have hfn : f < pn := by rw [LP.out]; exact hf
    obtain ⟨b0, o0, gx, gy, fa, fn, fc, fl, rfl, e3, d0, d1, d2, i3⟩ := (HP.out.kept B.out).at f hfn
    replace hq : q < fl.length := by rw [e3] at hq; exact hq
    have hfr3 := i3.room
    have hfc3 := i3.cap
    have hqn : q < fn := by rw [i3.len]; exact hq
    obtain ⟨b7, o7, K, A, rfl, e7, c7, c8⟩ := i3.at q hqn
    have E : Hid (isCallB ps (f : Int) (q : Int) called = decide ((K, A) = (14, called))) := hid (by unfold isCallB; rw [hrb, Int.toNat_natCast, Int.toNat_natCast, e3]; unfold insAt; rw [e7]; rfl)
    generalize heightV ps (f : Int) (q : Int) = H
    clear hh0 hrb e3 d0 d1 i3 hf hq e7
    by_cases hK : K = 14
    · subst hK
      by_cases hA : A = called
      · subst hA
        go_wp2_with fail
        go_ret
        exact ⟨ret_bool (by rw [E.out]; simp), B.out⟩
      · have hA' : (A == called) = false := by simpa using hA
        go_wp2_with fail
        go_ret
        exact ⟨ret_bool (by rw [E.out]; simp [hA]), B.out⟩
    · have hK' : (K == 14) = false := by simpa using hK
      go_wp2_with fail
      go_ret
      exact ⟨ret_bool (by rw [E.out]; simp [hK]), B.out⟩

end Go.Proofs.YtaimpljkbpnigaaGreatDoor

namespace Go.Proofs.YtaimpljkbpnigaaGreatDoor
open Go.RowKit
set_option linter.unusedVariables false

/-- May a call wait there for one of called? -/
def waitsB (ps : List Fn) (fn pc ln sn called : Int) : Bool := runB ps fn pc ln (sn + 1) && isCallB ps fn (pc - 1) called
set_option maxRecDepth 100000 in
set_option maxHeartbeats 4000000 in
theorem tabWaits_any (pa : Option Addr) (pn pc : Nat) (ha : Option Addr) (hn hc : Nat) (ps : List Fn) (fn x ln sn called : Int) (w : World) (hp : Fns w pa pn pc ps) (hh : Hts w ha hn hc (htsAll ps)) (hv : verV ps = 0) (hs0 : 0 ≤ sn) (hs1 : sn ≤ 140737488351232) :
    Calls Tryz.prog 82 #[.agg #[.slice pa pn pc, .slice ha hn hc], .int .i64 fn, .int .i64 x, .int .i64 ln, .int .i64 sn, .int .i64 called] w fun e w' => e = .returned (.bool (waitsB ps fn x ln sn called)) ∧ Below w.heap.size w w' := by
  have HP := hid hp
  have HH := hid hh
  have HV := hid hv
  clear hv hp hh
  go_enter Tryz.func82, Tryz.ntmps82
  go_wp2_with fail
  refine (tabRuns_any _ _ _ _ _ _ ps fn x ln (sn + 1) _ (HP.out.kept (by go_grown)) (HH.out.kept (by go_grown)) HV.out).mono ?_
  rintro e U ⟨rfl, bU⟩
  have B : Hid (Below w.heap.size w U) := hid (kt (by go_grown) bU)
  have p0 := kept_cell bU (b := w.heap.size) (o := 0) (v := .slice pa pn pc) (by simp [go_sem])
  have p1 := kept_cell bU (b := w.heap.size) (o := 1) (v := .slice ha hn hc) (by simp [go_sem])
  clear bU
  cases hrb : runB ps fn x ln (sn + 1)
  · have E : Hid (waitsB ps fn x ln sn called = false) := hid (by unfold waitsB; rw [hrb]; rfl)
    clear hrb
    go_wp2_with fail
    go_ret
    exact ⟨ret_bool E.out.symm, B.out⟩
  · have hh0 : 0 ≤ heightV ps fn x := by
      have : reachedB ps fn x = true := by unfold runB at hrb; exact (Bool.and_eq_true_iff.1 hrb).1
      simpa [reachedB] using this
    have E : Hid (waitsB ps fn x ln sn called = isCallB ps fn (x - 1) called) := hid (by unfold waitsB; rw [hrb]; rfl)
    obtain ⟨f, q, -, rfl, -, hq, -, -, -⟩ := reached_in hh0
    have hq64 : q < 64 := (reached_small hh0)
    clear hrb hh0 hq
    go_wp2_with fail
    refine (tabIsCall_any _ _ _ _ _ _ ps fn ((q : Int) - 1) called _ (HP.out.kept B.out) (HH.out.kept B.out) HV.out).mono ?_
    rintro e U2 ⟨rfl, b2⟩
    go_wp2_with fail
    go_ret
    exact ⟨ret_bool E.out.symm, kt B.out b2⟩

end Go.Proofs.YtaimpljkbpnigaaGreatDoor

/- Package calls: the table of a verified program (calls.Of). -/
import Derived.Test.YtfnfbebkeoilfaaGreatDoorMemFr
import Derived.Test.YtfnfbebkeoilfaaGreatDoorVerDev
namespace Go.Proofs.YtfnfbebkeoilfaaGreatDoor
open Go.RowKit
set_option linter.unusedVariables false

theorem Tryz.infoInts : (Tryz.prog.info? 40).map (fun i => (i.zero, i.size, i.bytes)) = some (some (.slice none 0 0), 1, 24) := by kernel_rfl

/-- A block's two cells. -/
structure Ck (w : World) (b : Nat) (u v : Value) : Prop where
  c0 : w.cell? ⟨b, 0, none⟩ = some u
  c1 : w.cell? ⟨b, 1, none⟩ = some v
  f0 : w.frozen? ⟨b, 0, none⟩ = false
  f1 : w.frozen? ⟨b, 1, none⟩ = false
theorem Ck.kept {w w' : World} (hb : Below w.heap.size w w') {b : Nat} {u v : Value} (h : Ck w b u v) : Ck w' b u v :=
  ⟨kept_cell hb h.c0, kept_cell hb h.c1, by rw [hb.frozen (lt_of_cell h.c0)]; exact h.f0, by rw [hb.frozen (lt_of_cell h.c1)]; exact h.f1⟩

set_option maxRecDepth 100000 in
set_option maxHeartbeats 2000000 in
theorem callsOf_any (pa : Option Addr) (pn pc : Nat) (ps : List Fn) (w : World) (hp : Fns w pa pn pc ps) (ld : Ld w) :
    Calls Tryz.prog 18 #[.agg #[.slice pa pn pc]] w fun e w' => Below w.heap.size w w' ∧
      ((verV ps = 0 ∧ ∃ ha hn hc, e = .returned (.tuple #[.agg #[.slice pa pn pc, .slice ha hn hc], .bool true]) ∧ Hts w' ha hn hc (htsAll ps)) ∨ (¬ verV ps = 0 ∧ ∃ a n c a' n' c', e = .returned (.tuple #[.agg #[.slice a n c, .slice a' n' c'], .bool false]))) := by
  obtain ⟨i0, hi, hz0, hz1, hz2⟩ := info_parts Tryz.infoInts
  have L := hid hp.len
  have hr := hp.room
  have hcp := hp.cap
  have HP := hid hp
  have LD := hid ld
  clear hp ld
  go_enter Tryz.func18, Tryz.ntmps18
  go_wp2_with fail
  go_loopw [15] (fun i wr => ∃ q : Nat, q ≤ pn ∧ i = .int .i64 q ∧ wr.cell? ⟨w.heap.size, 0, none⟩ = some (.slice pa pn pc) ∧ Ck wr (w.heap.size + 1) (.slice none 0 0) (.slice none 0 0) ∧
      (∃ va vn vc, Ck wr (w.heap.size + 1 + 1) (.slice pa pn pc) (.slice va vn vc) ∧ OwnHts 3 40 wr (w.heap.size + 3) (.slice va vn vc) ((htsAll ps).take q)) ∧ (∀ j, j < q → (htsV ps (j : Int)).2.2 = 0) ∧ Below w.heap.size w wr) (fun i _ => pn - (intOf i).toNat)
  case atStart => exact ⟨0, Nat.zero_le _, rfl, by simp [go_sem], ⟨by simp [go_sem], by simp [go_sem], by simp [go_sem], by simp [go_sem]⟩, ⟨_, _, _, ⟨by simp [go_sem], by simp [go_sem], by simp [go_sem], by simp [go_sem]⟩, OwnHts.nil _ _ _ _⟩, fun j hj => absurd hj (by omega), by go_grown⟩
  case round =>
    obtain ⟨q, hq, rfl, g0, k1, ⟨va, vn, vc, k2, ho⟩, hall, hb⟩ := hrel
    have hs := hb.size
    by_cases hlt : q < pn
    · go_wp2_with fail
      refine (verHeights _ _ _ ps (q : Int) _ (HP.out.kept hb) (LD.out.up hb)).mono ?_
      rintro e w1 ⟨v1, rfl, o1, b1⟩
      have hlen1 := hts_len (ps := ps) (fn := (q : Int))
      obtain ⟨a1, n1, c1, rfl, i1⟩ := ints_of_owns o1 (by omega)
      by_cases he : (htsV ps (q : Int)).2.2 = 0
      · rw [he]
        have HE := hid he
        have HA := hid hall
        have K1 := hid k1
        have K2 := hid k2
        have G0 := hid g0
        have B1 := hid b1
        have hs1 := b1.size
        have hlt2 := lt_of_cell k2.c0
        have hB5 : Below wr.heap.size wr (w1.alloc (.cells #[.slice a1 n1 c1] 40)) := kt b1 (Below.alloc (Below.refl _ _) (Nat.le_refl _) _)
        obtain ⟨t, ht1, ht2, ht3⟩ := ho
        have hlen : ((htsAll ps).take q).length = q := by rw [List.length_take, htsAll_len]; have := L.out; omega
        rw [hlen] at ht1 ht2 ht3
        have HO5 := hid (owns_kept ht2 hB5)
        have HC5 : Hid ((w1.alloc (.cells #[.slice a1 n1 c1] 40)).ownsRow (w.heap.size + 3) 3 1 (.slice a1 n1 c1) (htsV ps (q : Int)).1.length (ints (htsV ps (q : Int)).1)) := hid (owns_base (o1.alloc _) (by have := lt_of_cell k2.c0; omega))
        have H3 := hid (fun i (hi : i < q) => (⟨(ht3 i hi).1, owns_kept (ht3 i hi).2 hB5⟩ : (((htsAll ps).take q).getD i []).length * 8 ≤ 140737488351232 ∧ World.ownsRow _ (w.heap.size + 3) 3 1 (t.getD i undef) (((htsAll ps).take q).getD i []).length (ints (((htsAll ps).take q).getD i []))))
        have hnews := World.news_of_block (heap_alloc_new w1 (.cells #[.slice a1 n1 c1] 40))
        have HN := hid (fun b (hb : b < w.heap.size + 3) (h : some b = (Value.slice va vn vc).ownBlock) => (by have := (HO5.out.lt _ h.symm).1; omega : False))
        have J := hid (And.intro (kept_cell hB5 g0) (And.intro (k1.kept hB5) (k2.kept hB5)))
        have HT1 := hid ht1
        have HL := hid hlen
        have HB5 := hid hB5
        have q2 := (k2.kept b1).c1
        have p0 := kept_cell b1 g0
        clear hB5 ht1 ht2 ht3 hlen o1 i1 b1 he hall k1 k2 g0
        go_wp2_with (at_builtin; go_must ((refine wpList_append_lies _ rfl _ _ 55 rfl (w.heap.size + 3) 40 i0 (.slice none 0 0) 1 24 Tryz.underlying55 hi hz0 hz1 hz2 rfl (by decide) (.slice va vn vc) q t rfl HO5.out ⟨w1.heap.size, 0, none⟩ 1 1 [.slice a1 n1 c1] rfl rfl hnews (by intro u hu; simp at hu; rcases hu with rfl; rfl) (by decide) (by unfold maxLen; omega) (by omega) (by simp; omega) (w1.heap.size + 1) (by simp) ?_; intro g cap w6 ho6 hg6 hat hlt6; have j0 := hg6.cell J.out.1 (HN.out w.heap.size (by omega)); have j1 := hg6.cell J.out.2.1.c0 (HN.out (w.heap.size + 1) (by omega)); have j2 := hg6.cell J.out.2.1.c1 (HN.out (w.heap.size + 1) (by omega)); have j3 := hg6.cell J.out.2.2.c0 (HN.out (w.heap.size + 1 + 1) (by omega)); have j4 := hg6.cell J.out.2.2.c1 (HN.out (w.heap.size + 1 + 1) (by omega)); have f1 := (hg6.frozen_far ⟨w.heap.size + 1, 0, none⟩ (lt_of_cell J.out.2.1.c0) (HN.out (w.heap.size + 1) (by omega))).trans J.out.2.1.f0; have f2 := (hg6.frozen_far ⟨w.heap.size + 1, 1, none⟩ (lt_of_cell J.out.2.1.c1) (HN.out (w.heap.size + 1) (by omega))).trans J.out.2.1.f1; have f3 := (hg6.frozen_far ⟨w.heap.size + 1 + 1, 0, none⟩ (lt_of_cell J.out.2.2.c0) (HN.out (w.heap.size + 1 + 1) (by omega))).trans J.out.2.2.f0; have f4 := (hg6.frozen_far ⟨w.heap.size + 1 + 1, 1, none⟩ (lt_of_cell J.out.2.2.c1) (HN.out (w.heap.size + 1 + 1) (by omega))).trans J.out.2.2.f1; have P := hid (And.intro ho6 (And.intro hg6 hlt6)); clear ho6 hg6 hat hlt6)))
        go_roundw
        case rel =>
          obtain ⟨p1, p2, p3⟩ := P.out
          refine ⟨q + 1, by omega, by go_num, cell_set_far j0 (by simp; omega), ⟨cell_set_far j1 (by simp), cell_set_far j2 (by simp), by simp [f1], by simp [f2]⟩, ⟨_, _, _, ⟨by rw [World.cell?_setCell_other _ _ _ _ (by simp)]; exact j3, World.cell?_setCell_same _ _ _ j4, by simp [f3], by simp [f4]⟩, ?_⟩, ?_, ?_⟩
          · rw [htsAll_take (by have := L.out; omega)]
            exact (OwnHts.snoc (by decide) HL.out HT1.out HO5.out H3.out HC5.out (by omega) p1 p2).set _ _ (by simp)
          · intro j hj
            rcases Nat.lt_or_ge j q with h | h
            · exact HA.out j h
            · have : j = q := by omega
              rw [this]; exact HE.out
          · exact Below.setCell (Below.grown (hb.trans (HB5.out.mono hs)) p2 (by have := HB5.out.size; omega) (fun k hk => by have := (HO5.out.lt k hk).1; omega)) (by simp; omega) _
        case measure => simp [intOf]; omega
      · have he' : ((htsV ps (q : Int)).2.2 != 0) = true := by simp [he]
        have K1 := k1.kept b1
        obtain ⟨j1, j2, f1, f2⟩ := K1
        have HB := hid (kt hb b1)
        have HV := hid (ver_bad (ps := ps) (i := q) (by have := L.out; omega) he)
        clear o1 i1 b1 he hall k1 k2 g0 ho
        go_wp2_with fail
        refine bodyPost_ret (v := .tuple #[.agg #[.slice none 0 0, .slice none 0 0], .bool false]) (by simp [results, Tryz.results18, go_sem, j1, j2]) rfl ⟨?_, .inr ⟨HV.out, _, _, _, _, _, _, rfl⟩⟩
        exact ((HB.out.setCell (by simp) _).setCell (by simp) _)
    · have hqn : q = pn := by omega
      subst hqn
      obtain ⟨j1, j2, f1, f2⟩ := k1
      obtain ⟨j3, j4, f3, f4⟩ := k2
      have HO := hid ho
      have HA := hid hall
      clear ho hall
      by_cases h0 : 0 < q
      · have HV : Hid (verV ps = 0) := hid (ver_all (by rw [← L.out]; exact h0) (fun i hi => HA.out i (by rw [L.out]; exact hi)))
        have hvn : vn = q := by
          obtain ⟨t, _, ht2, _⟩ := HO.out
          have e : ((htsAll ps).take q).length = q := by rw [List.length_take, htsAll_len]; have := L.out; omega
          rw [e] at ht2
          rcases ht2.2 with ⟨e0, e1⟩ | ⟨g, cap, cur, e0, _⟩
          · omega
          · cases e0; rfl
        subst hvn
        have hl8 := ver_some HV.out
        have hq8 : vn ≤ 8 := by rw [L.out]; exact hl8.2
        have RD := hid (HO.out)
        rw [List.take_of_length_le (by rw [htsAll_len, ← L.out]; exact Nat.le_refl _)] at RD
        go_wp2_with fail
        go_region
        all_goals
          go_wp2_with fail
          obtain ⟨ha, hn, hc, e9, r9⟩ := ((RD.out.set ⟨w.heap.size + 1, 0, none⟩ (.slice pa vn pc) (by simp)).set ⟨w.heap.size + 1, 1, none⟩ (.slice va vn vc) (by simp)).reads (by rw [htsAll_len]; omega)
          cases e9
          refine bodyPost_ret (v := .tuple #[.agg #[.slice pa vn pc, .slice va vn vc], .bool true]) (by simp [results, Tryz.results18, go_sem, j1, j2]) rfl ⟨?_, .inl ⟨HV.out, _, _, _, rfl, ?_⟩⟩
          · exact (((hb.setCell (p := ⟨w.heap.size + 1, 0, none⟩) (by simp) (.slice pa vn pc)).setCell (p := ⟨w.heap.size + 1, 1, none⟩) (by simp) (.slice va vn vc)).drew)
          · exact r9.kept (Below.drew (Below.refl _ _))
      · have HV : Hid (¬ verV ps = 0) := hid (fun h => by have := ver_some h; have := L.out; omega)
        have hq0 : q = 0 := by omega
        subst hq0
        have hvn : vn = 0 := by
          obtain ⟨t, _, ht2, _⟩ := HO.out
          rw [List.take_zero] at ht2
          rcases ht2.2 with ⟨e0, e1⟩ | ⟨g, cap, cur, e0, _⟩
          · cases e0; rfl
          · cases e0; rfl
        subst hvn
        go_wp2_with fail
        go_region
        all_goals
          go_wp2_with fail
          refine bodyPost_ret (v := .tuple #[.agg #[.slice pa 0 pc, .slice va 0 vc], .bool false]) (by simp [results, Tryz.results18, go_sem, j1, j2]) rfl ⟨?_, .inr ⟨HV.out, _, _, _, _, _, _, rfl⟩⟩
          exact (((hb.setCell (p := ⟨w.heap.size + 1, 0, none⟩) (by simp) (.slice pa 0 pc)).setCell (p := ⟨w.heap.size + 1, 1, none⟩) (by simp) (.slice va 0 vc)).drew)

end Go.Proofs.YtfnfbebkeoilfaaGreatDoor

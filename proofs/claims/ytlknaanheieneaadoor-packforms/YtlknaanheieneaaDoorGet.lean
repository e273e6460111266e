/- What pack.Get returns: the program whose bytes the text is, or an error. -/
import Derived.Test.YtlknaanheieneaaDoorTakeAll
namespace Go.Proofs.YtlknaanheieneaaDoor
open Go.RowKit
set_option linter.unusedVariables false

set_option maxRecDepth 100000 in
set_option maxHeartbeats 4000000 in
theorem get_any (s : ByteArray) (w : World) (hs : s.size ≤ 140737488351232) {a b : Addr} (L : Laid a b w.heap.size w) :
    Calls Tryd.prog 11 #[.string s] w fun e w' => ∃ v err, e = .returned (.tuple #[.agg #[v], .int .i64 err]) ∧ Below w.heap.size w w' ∧
      ((∃ l, isPut s l ∧ err = 0 ∧ OwnFns 43 46 w' w.heap.size v l) ∨ ((∀ l, ¬ isPut s l) ∧ err = 300 ∧ v = .slice none 0 0)) := by
  have bR : Below w.heap.size w (w.alloc (.cells #[.slice none 0 0] 24)) := Below.alloc (Below.refl _ _) (Nat.le_refl _) _
  have L0 := L.up bR
  clear L
  go_enter Tryd.func11, Tryd.ntmps11
  go_wp2_with fail
  refine (takeAll_any s _ hs L0).mono ?_
  rintro e u ⟨bu, va, vn, vc, err, rfl, hr⟩
  have r0 := kept_cell bu (b := w.heap.size) (o := 0) (v := .slice none 0 0) (by simp [go_sem])
  have rf := (bu.frozen (p := ⟨w.heap.size, 0, none⟩) (by simp)).trans (show (w.alloc (.cells #[.slice none 0 0] 24)).frozen? ⟨w.heap.size, 0, none⟩ = false by simp [go_sem])
  have bU : Below u.heap.size u (u.alloc (.cells #[.slice va vn vc] 24)) := Below.alloc (Below.refl _ _) (Nat.le_refl _) _
  have r1 := kept_cell bU r0
  have f1 := (bU.frozen (p := ⟨w.heap.size, 0, none⟩) (lt_of_cell r0)).trans rf
  have hlt := lt_of_cell r0
  have L1 := hid ((L0.up bu).up bU)
  have B1 := hid (kt (kt bR bu) bU)
  have BU := hid bU
  have hz : w.heap.size + 1 ≤ u.heap.size := by have := bu.size; simpa using this
  clear L0 bR bu r0 rf bU
  rcases hr with ⟨l, hp, rfl, ow, hl⟩ | ⟨hp, z, m, hch, hzz⟩
  · have HP := hid hp
    have ow1 := ow.kept BU.out
    obtain ⟨aa, nn, cc, hv, fn⟩ := ow1.reads (by omega)
    cases hv
    have OW := hid ow1
    have FN := hid fn
    clear hp ow ow1 fn
    go_wp2_with fail
    refine (check_any _ _ _ l _ L1.out FN.out).mono ?_
    rintro e u2 ⟨⟨ha, rfl⟩ | ⟨ha, v, x, m, rfl, hc, hx⟩, b2⟩
    · have r2 := kept_cell b2 r1
      have f2 := (b2.frozen (p := ⟨w.heap.size, 0, none⟩) (lt_of_cell r1)).trans f1
      have p2 := kept_cell b2 (b := u.heap.size) (o := 0) (v := .slice va vn vc) (by simp [go_sem])
      have OW2 := hid (OW.out.kept b2)
      have B2 := hid (kt B1.out b2)
      clear b2 r1 f1
      go_wp2_with fail
      refine bodyPost_ret (v := .tuple #[.agg #[.slice va vn vc], .int .i64 0]) (by simp [results, Tryd.results11, go_sem, r2]) rfl ⟨_, _, rfl, B2.out.setCell (by simp) _, .inl ⟨l, (isPut_iff s l).2 ⟨HP.out, ha⟩, rfl, ?_⟩⟩
      exact (OW2.out.set _ _ (by simp)).base (by simp)
    · obtain ⟨tt, zz, rfl⟩ := hc.iface
      have r2 := kept_cell b2 r1
      have f2 := (b2.frozen (p := ⟨w.heap.size, 0, none⟩) (lt_of_cell r1)).trans f1
      have L2 := hid (L1.out.up b2)
      have B2 := hid (kt B1.out b2)
      have HC := hid hc
      clear b2 r1 f1 hc
      go_wp2_with fail
      refine (numberOf_any L2.out _ x m HC.out hx).mono ?_
      rintro e u3 ⟨rfl, b3⟩
      have r3 := kept_cell b3 r2
      have f3 := (b3.frozen (p := ⟨w.heap.size, 0, none⟩) (lt_of_cell r2)).trans f2
      have B3 := hid (kt B2.out b3)
      clear b3 r2 f2
      go_wp2_with fail
      refine bodyPost_ret (v := .tuple #[.agg #[.slice none 0 0], .int .i64 300]) (by simp [results, Tryd.results11, go_sem, r3]) rfl ⟨_, _, rfl, B3.out.setCell (by simp) _, .inr ⟨fun l' h' => ?_, rfl, rfl⟩⟩
      obtain ⟨h1, h2⟩ := (isPut_iff s l').1 h'
      rw [HP.out] at h1
      cases h1
      rw [ha] at h2; cases h2
  · obtain ⟨tt, zz, rfl⟩ := hch.iface
    have HP := hid hp
    have HC := hid hch
    clear hp hch
    go_wp2_with fail
    refine (numberOf_any L1.out _ z m HC.out hzz).mono ?_
    rintro e u3 ⟨rfl, b3⟩
    have r3 := kept_cell b3 r1
    have f3 := (b3.frozen (p := ⟨w.heap.size, 0, none⟩) (lt_of_cell r1)).trans f1
    have B3 := hid (kt B1.out b3)
    clear b3 r1 f1
    go_wp2_with fail
    refine bodyPost_ret (v := .tuple #[.agg #[.slice none 0 0], .int .i64 300]) (by simp [results, Tryd.results11, go_sem, r3]) rfl ⟨_, _, rfl, B3.out.setCell (by simp) _, .inr ⟨fun l' h' => ?_, rfl, rfl⟩⟩
    obtain ⟨h1, h2⟩ := (isPut_iff s l').1 h'
    rw [HP.out] at h1
    cases h1

end Go.Proofs.YtlknaanheieneaaDoor

/- Blocks laid one behind another: what lies in each of them. Nothing of the program is named here. What the document's own answers for frames return: Numbers, Height, frame, FrameMay, Behind. -/
import Derived.Test.YtaimpljkbpnigaaGreatDoorMemInts
import Derived.Test.YtaimpljkbpnigaaGreatDoorMemFr
import Derived.Test.YtaimpljkbpnigaaGreatDoorRefHeights
namespace Go.Proofs.YtaimpljkbpnigaaGreatDoor
open Go.RowKit
set_option linter.unusedVariables false

def allocs (u : World) : List Obj → World
  | [] => u
  | o :: r => allocs (u.alloc o) r
theorem allocs_below (u : World) (bs : List Obj) : Below u.heap.size u (allocs u bs) := by
  induction bs generalizing u with
  | nil => exact Below.refl _ _
  | cons o r ih => exact kt (Below.alloc (Below.refl _ _) (Nat.le_refl _) o) (ih (u.alloc o))
theorem allocs_size (u : World) (bs : List Obj) : (allocs u bs).heap.size = u.heap.size + bs.length := by
  induction bs generalizing u with
  | nil => rfl
  | cons o r ih => show (allocs (u.alloc o) r).heap.size = _; rw [ih]; simp; omega
theorem allocs_cell (u : World) (bs : List Obj) (i : Nat) (c : Array Value) (t : TypeId) (h : bs[i]? = some (.cells c t)) (o : Nat) (v : Value) (hv : c[o]? = some v) : (allocs u bs).cell? ⟨u.heap.size + i, o, none⟩ = some v := by
  induction bs generalizing u i with
  | nil => simp at h
  | cons b r ih =>
    cases i with
    | zero =>
      have e : b = .cells c t := by simpa using h
      subst e
      refine kept_cell (allocs_below (u.alloc (.cells c t)) r) (b := u.heap.size + 0) ?_
      rw [World.cell?_alloc_at _ _ _ _ (by simp)]; exact hv
    | succ i =>
      have := ih (u.alloc b) i (by simpa using h)
      simp only [World.size_alloc] at this
      rw [show u.heap.size + (i + 1) = u.heap.size + 1 + i by omega]
      exact this
theorem allocs_inss (u : World) (bs : List Obj) (i : Nat) (l : List (Int × Int)) (t : TypeId) (h : bs[i]? = some (.cells (flat2 l).toArray t)) (hl : l.length * 16 ≤ 140737488351232) : Inss (allocs u bs) (some ⟨u.heap.size + i, 0, none⟩) l.length l.length l := by
  refine ⟨rfl, Nat.le_refl _, hl, fun e => (by cases e), fun hn => ⟨u.heap.size + i, 0, rfl, fun j hj => ⟨?_, ?_⟩⟩⟩
  · exact allocs_cell u bs i _ t h _ _ (by rw [Nat.zero_add]; simpa using flat2_even l j hj)
  · exact allocs_cell u bs i _ t h _ _ (by rw [Nat.zero_add]; simpa using flat2_odd l j hj)
theorem wp_world {P : Program} {c : Code} {Q : Exit → Act → World → Prop} {a : Act} {W U : World} (h : U = W) (k : Code.wp P c Q a U) : Code.wp P c Q a W := h ▸ k
/-- Two functions in a row. -/
theorem fns_two {w : World} {g : Nat} {x y x' y' : Int} {a a' : Option Addr} {n c n' c' : Nat} {l l' : List (Int × Int)} (h : Inss w a n c l) (h' : Inss w a' n' c' l') (c0 : w.cell? ⟨g, 0, none⟩ = some (.int .i64 x)) (c1 : w.cell? ⟨g, 1, none⟩ = some (.int .i64 y)) (c2 : w.cell? ⟨g, 2, none⟩ = some (.slice a n c))
    (c3 : w.cell? ⟨g, 3, none⟩ = some (.int .i64 x')) (c4 : w.cell? ⟨g, 4, none⟩ = some (.int .i64 y')) (c5 : w.cell? ⟨g, 5, none⟩ = some (.slice a' n' c')) : Fns w (some ⟨g, 0, none⟩) 2 2 [(x, y, l), (x', y', l')] := by
  refine ⟨rfl, Nat.le_refl _, by omega, fun e => (by cases e), fun _ => ⟨g, 0, rfl, fun i hi => ?_⟩⟩
  rcases (show i = 0 ∨ i = 1 by simp at hi; omega) with rfl | rfl
  · exact ⟨c0, c1, a, n, c, c2, h⟩
  · exact ⟨c3, c4, a', n', c', c5, h'⟩

end Go.Proofs.YtaimpljkbpnigaaGreatDoor

namespace Go.Proofs.YtaimpljkbpnigaaGreatDoor
open Go.RowKit
set_option linter.unusedVariables false

theorem height_le (ps : List Fn) (fn pc : Int) : -1 ≤ heightV ps fn pc ∧ heightV ps fn pc ≤ 8 := by
  by_cases h : 0 ≤ heightV ps fn pc
  · obtain ⟨f, q, rfl, rfl, hf, hq, he, hq', e⟩ := reached_in h
    obtain ⟨_, f', e', hf', hw, _⟩ := hts_ok he
    have e2 : f' = f := by omega
    subst e2
    rw [e] at h ⊢
    refine ⟨by omega, ?_⟩
    have hl := hw.len
    have hr := hw.only q (by omega) h
    rcases hr.cases with rfl | ⟨p, hp, hn⟩
    · rw [hw.first]; omega
    · have hpr := hw.reach (by omega) hp
      rcases hw.gone p hpr.1 hpr.2 with h1 | h1
      · cases h1
      · rw [h1.2.2 q hn]; exact h1.2.1
  · unfold heightV at h ⊢
    split
    · rename_i hc
      rw [if_pos hc] at h
      obtain ⟨_, f, e, hf, hw, _⟩ := hts_ok hc.1
      have := hw.low pc.toNat (by rw [← hw.len]; have := hc.2; simp [inB] at this; omega)
      omega
    · omega

def nkB (l : List Int) (k : Int) : Bool := numsB l && lenB l k
theorem lenB_of {l : List Int} {n : Nat} {k : Int} (h : n = l.length) : ((n : Int) == k) = lenB l k := by
  unfold lenB; rw [← h, Bool.eq_iff_iff]; simp

set_option maxHeartbeats 1000000 in
theorem refHeight_any (pa : Option Addr) (pn pc : Nat) (ps : List Fn) (fn x : Int) (w : World) (hp : Fns w pa pn pc ps) :
    Calls Tryz.prog 26 #[.agg #[.slice pa pn pc], .int .i64 fn, .int .i64 x] w fun e w' => e = .returned (.int .i64 (heightV ps fn x)) ∧ Below w.heap.size w w' := by
  have HP := hid hp
  clear hp
  go_enter Tryz.func26, Tryz.ntmps26
  go_wp2_with fail
  refine (refHeights_any _ _ _ ps fn _ (HP.out.kept (by go_grown))).mono ?_
  rintro e w1 ⟨v1, rfl, o1, b1⟩
  have hlen1 := hts_len (ps := ps) (fn := fn)
  obtain ⟨a1, n1, c1, rfl, i1⟩ := ints_of_owns o1 (by omega)
  have B := hid (kt (by go_grown : Below w.heap.size w (w.alloc (.cells #[.slice pa pn pc] 24))) b1)
  have hr := i1.room
  have hc := i1.cap
  have L := hid i1.len
  clear o1 b1
  by_cases he : (htsV ps fn).2.2 = 0
  · rw [he]
    by_cases h0 : x < 0
    · have H : Hid (heightV ps fn x = -1) := hid (height_out (by simp [inB]; omega))
      clear he
      go_wp2_with fail
      go_ret
      exact ⟨ret_int H.out.symm, B.out⟩
    · obtain ⟨q, rfl⟩ : ∃ q : Nat, x = q := ⟨x.toNat, by omega⟩
      by_cases h1 : q < n1
      · have H : Hid (heightV ps fn (q : Int) = (htsV ps fn).1.getD q 0) := hid (height_at he (by have := L.out; omega))
        obtain ⟨b2, o2, rfl, r2⟩ := i1.row (by omega)
        have c2 := r2 q h1
        generalize hx : (htsV ps fn).1.getD q 0 = y at c2 H
        clear hx he i1 r2
        go_wp2_with fail
        go_ret
        exact ⟨ret_int H.out.symm, B.out⟩
      · have H : Hid (heightV ps fn (q : Int) = -1) := hid (height_out (by simp [inB]; have := L.out; omega))
        clear he
        go_wp2_with fail
        go_ret
        exact ⟨ret_int H.out.symm, B.out⟩
  · have he' : ((htsV ps fn).2.2 != 0) = true := by simp [he]
    have H : Hid (heightV ps fn x = -1) := hid (height_bad he)
    clear he
    go_wp2_with fail
    go_ret
    exact ⟨ret_int H.out.symm, B.out⟩

theorem frB_nk {ps : List Fn} {less x y : Int} {ll sl : List Int} {f : Nat} (hx : x = f) (h : 0 ≤ heightV ps x y) : frB ps less (x, y, ll, sl) = (nkB ll (ps.getD f noFn).2.1 && nkB sl (heightV ps x y - less)) := by
  subst hx
  simp only [frB, nkB, reachedB, decide_eq_true h, Bool.true_and, Int.toNat_natCast]
  cases lenB ll (ps.getD f noFn).2.1 <;> cases lenB sl (heightV ps (f : Int) y - less) <;> cases numsB ll <;> cases numsB sl <;> rfl
theorem frB_low {ps : List Fn} {less x y : Int} {ll sl : List Int} (h : ¬ 0 ≤ heightV ps x y) : frB ps less (x, y, ll, sl) = false := by
  simp [frB, reachedB]; omega

end Go.Proofs.YtaimpljkbpnigaaGreatDoor

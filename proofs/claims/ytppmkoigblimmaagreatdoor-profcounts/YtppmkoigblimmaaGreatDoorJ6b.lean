/- Blocks laid one behind another: what lies in each of them. Nothing of the program is named here. Package frame: the checker of a program, what its methods tell. What the document's own answers for frames return: Numbers, Height, frame, FrameMay, Behind. Package frame: what the checker's methods tell; May and State. Package frame: where a program begins (Start). What CopyState returns: the same state, in memory of its own. -/
import Derived.Test.YtppmkoigblimmaaGreatDoorMemInts
import Derived.Test.YtppmkoigblimmaaGreatDoorJ6a
import Derived.Test.YtppmkoigblimmaaGreatDoorVerDev
import Derived.Test.YtppmkoigblimmaaGreatDoorMemFr
import Derived.Test.YtppmkoigblimmaaGreatDoorRefHeights
import Derived.Test.YtppmkoigblimmaaGreatDoorRefWalk
import Derived.Laws.CopyOwn
import Derived.Laws.AppendOwnNone
namespace Go.Proofs.YtppmkoigblimmaaGreatDoor
open Go.RowKit
set_option linter.unusedVariables false

def allocs (u : World) : List Obj → World
  | [] => u
  | o :: r => allocs (u.alloc o) r
theorem allocs_below (u : World) (bs : List Obj) : Below u.heap.size u (allocs u bs) := by
  induction bs generalizing u with
  | nil => exact Below.refl _ _
  | cons o r ih => exact kt (Below.alloc (Below.refl _ _) (Nat.le_refl _) o) (ih (u.alloc o))
theorem allocs_size (u : World) (bs : List Obj) : (allocs u bs).heap.size = u.heap.size + bs.length := by
  induction bs generalizing u with
  | nil => rfl
  | cons o r ih => show (allocs (u.alloc o) r).heap.size = _; rw [ih]; simp; omega
theorem allocs_cell (u : World) (bs : List Obj) (i : Nat) (c : Array Value) (t : TypeId) (h : bs[i]? = some (.cells c t)) (o : Nat) (v : Value) (hv : c[o]? = some v) : (allocs u bs).cell? ⟨u.heap.size + i, o, none⟩ = some v := by
  induction bs generalizing u i with
  | nil => simp at h
  | cons b r ih =>
    cases i with
    | zero =>
      have e : b = .cells c t := by simpa using h
      subst e
      refine kept_cell (allocs_below (u.alloc (.cells c t)) r) (b := u.heap.size + 0) ?_
      rw [World.cell?_alloc_at _ _ _ _ (by simp)]; exact hv
    | succ i =>
      have := ih (u.alloc b) i (by simpa using h)
      simp only [World.size_alloc] at this
      rw [show u.heap.size + (i + 1) = u.heap.size + 1 + i by omega]
      exact this
theorem allocs_inss (u : World) (bs : List Obj) (i : Nat) (l : List (Int × Int)) (t : TypeId) (h : bs[i]? = some (.cells (flat2 l).toArray t)) (hl : l.length * 16 ≤ 140737488351232) : Inss (allocs u bs) (some ⟨u.heap.size + i, 0, none⟩) l.length l.length l := by
  refine ⟨rfl, Nat.le_refl _, hl, fun e => (by cases e), fun hn => ⟨u.heap.size + i, 0, rfl, fun j hj => ⟨?_, ?_⟩⟩⟩
  · exact allocs_cell u bs i _ t h _ _ (by rw [Nat.zero_add]; simpa using flat2_even l j hj)
  · exact allocs_cell u bs i _ t h _ _ (by rw [Nat.zero_add]; simpa using flat2_odd l j hj)
theorem wp_world {P : Program} {c : Code} {Q : Exit → Act → World → Prop} {a : Act} {W U : World} (h : U = W) (k : Code.wp P c Q a U) : Code.wp P c Q a W := h ▸ k
/-- Two functions in a row. -/
theorem fns_two {w : World} {g : Nat} {x y x' y' : Int} {a a' : Option Addr} {n c n' c' : Nat} {l l' : List (Int × Int)} (h : Inss w a n c l) (h' : Inss w a' n' c' l') (c0 : w.cell? ⟨g, 0, none⟩ = some (.int .i64 x)) (c1 : w.cell? ⟨g, 1, none⟩ = some (.int .i64 y)) (c2 : w.cell? ⟨g, 2, none⟩ = some (.slice a n c))
    (c3 : w.cell? ⟨g, 3, none⟩ = some (.int .i64 x')) (c4 : w.cell? ⟨g, 4, none⟩ = some (.int .i64 y')) (c5 : w.cell? ⟨g, 5, none⟩ = some (.slice a' n' c')) : Fns w (some ⟨g, 0, none⟩) 2 2 [(x, y, l), (x', y', l')] := by
  refine ⟨rfl, Nat.le_refl _, by omega, fun e => (by cases e), fun _ => ⟨g, 0, rfl, fun i hi => ?_⟩⟩
  rcases (show i = 0 ∨ i = 1 by simp at hi; omega) with rfl | rfl
  · exact ⟨c0, c1, a, n, c, c2, h⟩
  · exact ⟨c3, c4, a', n', c', c5, h'⟩

end Go.Proofs.YtppmkoigblimmaaGreatDoor

namespace Go.Proofs.YtppmkoigblimmaaGreatDoor
open Go.RowKit
set_option linter.unusedVariables false

theorem Tryz.infoInts : (Tryz.prog.info? 28).map (fun i => (i.zero, i.size, i.bytes)) = some (some (.slice none 0 0), 1, 24) := by kernel_rfl

/-- A block's two cells. -/
structure Ck (w : World) (b : Nat) (u v : Value) : Prop where
  c0 : w.cell? ⟨b, 0, none⟩ = some u
  c1 : w.cell? ⟨b, 1, none⟩ = some v
  f0 : w.frozen? ⟨b, 0, none⟩ = false
  f1 : w.frozen? ⟨b, 1, none⟩ = false
theorem Ck.kept {w w' : World} (hb : Below w.heap.size w w') {b : Nat} {u v : Value} (h : Ck w b u v) : Ck w' b u v :=
  ⟨kept_cell hb h.c0, kept_cell hb h.c1, by rw [hb.frozen (lt_of_cell h.c0)]; exact h.f0, by rw [hb.frozen (lt_of_cell h.c1)]; exact h.f1⟩

end Go.Proofs.YtppmkoigblimmaaGreatDoor

namespace Go.Proofs.YtppmkoigblimmaaGreatDoor
open Go.RowKit
set_option linter.unusedVariables false

theorem height_le (ps : List Fn) (fn pc : Int) : -1 ≤ heightV ps fn pc ∧ heightV ps fn pc ≤ 8 := by
  by_cases h : 0 ≤ heightV ps fn pc
  · obtain ⟨f, q, rfl, rfl, hf, hq, he, hq', e⟩ := reached_in h
    obtain ⟨_, f', e', hf', hw, _⟩ := hts_ok he
    have e2 : f' = f := by omega
    subst e2
    rw [e] at h ⊢
    refine ⟨by omega, ?_⟩
    have hl := hw.len
    have hr := hw.only q (by omega) h
    rcases hr.cases with rfl | ⟨p, hp, hn⟩
    · rw [hw.first]; omega
    · have hpr := hw.reach (by omega) hp
      rcases hw.gone p hpr.1 hpr.2 with h1 | h1
      · cases h1
      · rw [h1.2.2 q hn]; exact h1.2.1
  · unfold heightV at h ⊢
    split
    · rename_i hc
      rw [if_pos hc] at h
      obtain ⟨_, f, e, hf, hw, _⟩ := hts_ok hc.1
      have := hw.low pc.toNat (by rw [← hw.len]; have := hc.2; simp [inB] at this; omega)
      omega
    · omega

def nkB (l : List Int) (k : Int) : Bool := numsB l && lenB l k
theorem lenB_of {l : List Int} {n : Nat} {k : Int} (h : n = l.length) : ((n : Int) == k) = lenB l k := by
  unfold lenB; rw [← h, Bool.eq_iff_iff]; simp

set_option maxHeartbeats 1000000 in
theorem refNumbers_any (a : Option Addr) (n c : Nat) (l : List Int) (k : Int) (w : World) (h : Ints w a n c l) :
    Calls Tryz.prog 26 #[.slice a n c, .int .i64 k] w fun e w' => e = .returned (.bool (nkB l k)) ∧ Below w.heap.size w w' := by
  have L := hid h.len
  have hr := h.room
  have hcp := h.cap
  go_enter Tryz.func26, Tryz.ntmps26
  go_wp2
  go_loopw [5] (fun i wr => ∃ q : Nat, q ≤ n ∧ i = .int .i64 q ∧ ((l.take q).all isNum) = true ∧ Below w.heap.size w wr) (fun i _ => n - (intOf i).toNat)
  case atStart => exact ⟨0, Nat.zero_le _, rfl, by simp, by go_grown⟩
  case round =>
    obtain ⟨q, hq, rfl, ht, hb⟩ := hrel
    have HT := hid ht
    clear ht
    by_cases hlt : q < n
    · obtain ⟨b1, o1, ha, r1⟩ := (h.kept hb).row (by omega)
      have c1 := r1 q hlt
      generalize hx : l.getD q 0 = x at c1
      have HX := hid hx
      subst ha
      clear hx r1
      go_wp2_with fail
      refine (refNumber_any _ _).mono ?_
      rintro e w1 ⟨rfl, rfl⟩
      cases hm : isNum x
      · have F : Hid (nkB l k = false) := hid (by unfold nkB; rw [show numsB l = false from all_not_at (l := l) (p := isNum) (q := q) (d := 0) (by have := L.out; omega) (by rw [HX.out]; exact hm)]; rfl)
        go_wp2_with fail
        go_ret
        exact ⟨ret_bool F.out.symm, hb⟩
      · have F : Hid ((l.take (q + 1)).all isNum = true) := hid (all_take_step (d := 0) (by have := L.out; omega) HT.out (by rw [HX.out]; exact hm))
        go_wp2_with fail
        go_roundw
        case rel => exact ⟨q + 1, by omega, by go_num, F.out, hb⟩
        case measure => simp [intOf]; omega
    · have F : Hid (numsB l = true) := hid (all_take_all (l := l) (p := isNum) (by have := L.out; omega) HT.out)
      go_wp2
      go_ret
      exact ⟨ret_bool (by unfold nkB; rw [F.out, Bool.true_and]; exact lenB_of L.out), hb⟩

theorem frB_nk {ps : List Fn} {less x y : Int} {ll sl : List Int} {f : Nat} (hx : x = f) (h : 0 ≤ heightV ps x y) : frB ps less (x, y, ll, sl) = (nkB ll (ps.getD f noFn).2.1 && nkB sl (heightV ps x y - less)) := by
  subst hx
  simp only [frB, nkB, reachedB, decide_eq_true h, Bool.true_and, Int.toNat_natCast]
  cases lenB ll (ps.getD f noFn).2.1 <;> cases lenB sl (heightV ps (f : Int) y - less) <;> cases numsB ll <;> cases numsB sl <;> rfl
theorem frB_low {ps : List Fn} {less x y : Int} {ll sl : List Int} (h : ¬ 0 ≤ heightV ps x y) : frB ps less (x, y, ll, sl) = false := by
  simp [frB, reachedB]; omega

end Go.Proofs.YtppmkoigblimmaaGreatDoor

namespace Go.Proofs.YtppmkoigblimmaaGreatDoor
open Go.RowKit
set_option linter.unusedVariables false

theorem reached_eq {ps : List Fn} {f q : Nat} (hv : verV ps = 0) (hf : f < ps.length) {hl : List Int} (e : (htsAll ps).getD f [] = hl) (hq : q < hl.length) : heightV ps (f : Int) (q : Int) = hl.getD q 0 := by
  rw [htsAll_at hf] at e
  rw [height_at (ver_at hv hf) (by rw [e]; exact hq), e]
theorem reached_off {ps : List Fn} {f : Nat} {x : Int} (hf : f < ps.length) {hl : List Int} (e : (htsAll ps).getD f [] = hl) (hq : x < 0 ∨ (hl.length : Int) ≤ x) : reachedB ps (f : Int) x = false := by
  rw [htsAll_at hf] at e
  unfold reachedB
  rw [height_out (by rw [e]; simp [inB]; omega)]
  rfl

theorem frB_parts {ps : List Fn} {less : Int} {f : Nat} {y : Int} {ll sl : List Int} {fx fy : Int} {fl : List (Int × Int)} {H : Int} (e : ps.getD f noFn = (fx, fy, fl)) (hh : 0 ≤ heightV ps (f : Int) y) (hH : heightV ps (f : Int) y = H) :
    frB ps less ((f : Int), y, ll, sl) = (lenB ll fy && (lenB sl (H - less) && (numsB ll && numsB sl))) := by
  subst hH
  simp only [frB, reachedB, decide_eq_true hh, Bool.true_and, Int.toNat_natCast, e]

theorem callAt_last {ps : List Fn} {fs : List Fr} {i : Nat} {f : Fr} (h : i + 1 = fs.length) (e : fs.getD i noFr = f) : callAt ps fs i = frB ps 0 f := by unfold callAt; rw [if_pos h, e]
theorem callAt_wait {ps : List Fn} {fs : List Fr} {i : Nat} {f : Fr} {x : Int} (h : ¬ i + 1 = fs.length) (e : fs.getD i noFr = f) (e' : (fs.getD (i + 1) noFr).1 = x) : callAt ps fs i = waitB ps f x := by unfold callAt; rw [if_neg h, e, e']
theorem calls_last {ps : List Fn} {fs : List Fr} {i : Nat} (h : i + 1 = fs.length) : (firstAt (fun i => !callAt ps fs i) (fs.length - i) i).isNone = callAt ps fs i := by
  rw [show fs.length - i = 0 + 1 by omega]
  cases hc : callAt ps fs i
  · rw [firstAt_hit (by simp [hc])]; rfl
  · rw [firstAt_step (by simp [hc])]; rfl
theorem calls_step {ps : List Fn} {fs : List Fr} {i : Nat} (h : i < fs.length) (hc : callAt ps fs i = true) : (firstAt (fun i => !callAt ps fs i) (fs.length - (i + 1)) (i + 1)).isNone = (firstAt (fun i => !callAt ps fs i) (fs.length - i) i).isNone := by
  rw [show fs.length - i = (fs.length - (i + 1)) + 1 by omega, firstAt_step (by simp [hc])]
theorem calls_bad {ps : List Fn} {fs : List Fr} {i : Nat} (h : i < fs.length) (hc : callAt ps fs i = false) : (firstAt (fun i => !callAt ps fs i) (fs.length - i) i).isNone = false := by
  rw [show fs.length - i = (fs.length - (i + 1)) + 1 by omega, firstAt_hit (by simp [hc])]; rfl

/-- A frame's four cells in a block. -/
structure FB (w : World) (b : Nat) (x y : Int) (u v : Value) : Prop where
  c0 : w.cell? ⟨b, 0, none⟩ = some (.int .i64 x)
  c1 : w.cell? ⟨b, 1, none⟩ = some (.int .i64 y)
  c2 : w.cell? ⟨b, 2, none⟩ = some u
  c3 : w.cell? ⟨b, 3, none⟩ = some v

end Go.Proofs.YtppmkoigblimmaaGreatDoor

namespace Go.Proofs.YtppmkoigblimmaaGreatDoor
open Go.RowKit
set_option linter.unusedVariables false

/-- A state that is zero, in a block of its own. -/
structure Z5 (w : World) (b : Nat) : Prop where
  c0 : w.cell? ⟨b, 0, none⟩ = some (.slice none 0 0)
  c1 : w.cell? ⟨b, 1, none⟩ = some (.int .i64 0)
  c2 : w.cell? ⟨b, 2, none⟩ = some (.slice none 0 0)
  c3 : w.cell? ⟨b, 3, none⟩ = some (.int .i64 0)
  c4 : w.cell? ⟨b, 4, none⟩ = some (.int .i64 0)
  f0 : w.frozen? ⟨b, 0, none⟩ = false
  f1 : w.frozen? ⟨b, 1, none⟩ = false
  f2 : w.frozen? ⟨b, 2, none⟩ = false
  f3 : w.frozen? ⟨b, 3, none⟩ = false
  f4 : w.frozen? ⟨b, 4, none⟩ = false
theorem Z5.kept {w w' : World} {b : Nat} (h : Z5 w b) (hb : Below w.heap.size w w') : Z5 w' b :=
  ⟨kept_cell hb h.c0, kept_cell hb h.c1, kept_cell hb h.c2, kept_cell hb h.c3, kept_cell hb h.c4, by rw [hb.frozen (lt_of_cell h.c0)]; exact h.f0, by rw [hb.frozen (lt_of_cell h.c1)]; exact h.f1,
    by rw [hb.frozen (lt_of_cell h.c2)]; exact h.f2, by rw [hb.frozen (lt_of_cell h.c3)]; exact h.f3, by rw [hb.frozen (lt_of_cell h.c4)]; exact h.f4⟩
theorem below5 {B : Nat} {w u : World} {b : Nat} (h : Below B w u) (hb : B ≤ b) (v0 v1 v2 v3 v4 : Value) : Below B w (((((u.setCell ⟨b, 0, none⟩ v0).setCell ⟨b, 1, none⟩ v1).setCell ⟨b, 2, none⟩ v2).setCell ⟨b, 3, none⟩ v3).setCell ⟨b, 4, none⟩ v4) :=
  ((((h.setCell (p := ⟨b, 0, none⟩) hb v0).setCell (p := ⟨b, 1, none⟩) hb v1).setCell (p := ⟨b, 2, none⟩) hb v2).setCell (p := ⟨b, 3, none⟩) hb v3).setCell (p := ⟨b, 4, none⟩) hb v4
theorem OwnFrs.set5 {e f : Nat} {u : World} {base b : Nat} {v : Value} {l : List Fr} (h : OwnFrs e f u base v l) (hb : b < base) (v0 v1 v2 v3 v4 : Value) : OwnFrs e f (((((u.setCell ⟨b, 0, none⟩ v0).setCell ⟨b, 1, none⟩ v1).setCell ⟨b, 2, none⟩ v2).setCell ⟨b, 3, none⟩ v3).setCell ⟨b, 4, none⟩ v4) base v l :=
  ((((h.set ⟨b, 0, none⟩ v0 hb).set ⟨b, 1, none⟩ v1 hb).set ⟨b, 2, none⟩ v2 hb).set ⟨b, 3, none⟩ v3 hb).set ⟨b, 4, none⟩ v4 hb
/-- One frame in a row of its own. -/
theorem ownFrs_one {e f : Nat} {w : World} {base : Nat} {lv sv : Value} {x y : Int} {ll sl : List Int} (hb : base ≤ w.heap.size) (hl : w.ownsRow base e 1 lv ll.length (ints ll)) (hll : ll.length * 8 ≤ 140737488351232) (hs : w.ownsRow base e 1 sv sl.length (ints sl)) (hsl : sl.length * 8 ≤ 140737488351232) :
    OwnFrs e f (w.alloc (.cells #[.int .i64 x, .int .i64 y, lv, sv] f)) base (.slice (some ⟨w.heap.size, 0, none⟩) 1 1) [(x, y, ll, sl)] := by
  have A : Below w.heap.size w (w.alloc (.cells #[.int .i64 x, .int .i64 y, lv, sv] f)) := Below.alloc (Below.refl _ _) (Nat.le_refl _) _
  refine ⟨[(x, y, lv, sv)], rfl, ?_, fun i hi => ?_⟩
  · exact World.ownsRow_lit (e := f) (size := 4) w #[.int .i64 x, .int .i64 y, lv, sv] 1 hb (by unfold maxLen; omega) rfl
  · have h0 : i = 0 := by simpa using hi
    subst h0
    exact ⟨rfl, rfl, ⟨hll, owns_kept hl A⟩, hsl, owns_kept hs A⟩

theorem freshL_len (k : Nat) (args : List Int) : (freshL k args).length = k := by simp [freshL]
/-- What copy leaves: the arguments, then what was there. -/
theorem splice_fresh (k : Nat) (args : List Int) (h : args.length ≤ k) : splice (ints (List.replicate k 0)) 0 (ints args) = ints (freshL k args) := by
  have e : (freshL k args) = args ++ List.replicate (k - args.length) 0 := by
    unfold freshL
    rw [List.take_append, List.take_of_length_le h, List.take_replicate, Nat.min_eq_left (by omega)]
  rw [e]
  simp [splice, ints]

theorem made_ints (n : Nat) : madeCells #[.int .i64 0] n = (ints (List.replicate n 0)).toArray := by
  rw [← ints_rep, ← toList_madeCells_one]
theorem owns_full {w : World} {base e g n : Nat} {xs : List Int} (hl : xs.length = n) (hb : base ≤ g) (hm : n ≤ maxLen) (h : w.heap[g]? = some (.cells (ints xs).toArray e (0, 0))) : w.ownsRow base e 1 (.slice (some ⟨g, 0, none⟩) n n) xs.length (ints xs) := by
  subst hl
  refine ⟨by simp [ints_len], .inr ⟨g, xs.length, (ints xs).toArray, rfl, hb, h, Nat.le_refl _, hm, by simp [ints_len], ?_⟩⟩
  simp [ints_len, List.take_of_length_le]
/-- The cells of a row that came in, one by one. -/
theorem ints_src {w : World} {a : Option Addr} {n c : Nat} {l : List Int} (h : Ints w a n c l) : 0 < (ints l).length → ∃ ad, a = some ad ∧ ∀ j v, (ints l)[j]? = some v → w.cell? (ad.add j) = some v := by
  intro h0
  rw [ints_len] at h0
  obtain ⟨b, o, ha, hr⟩ := h.row (by rw [h.len]; exact h0)
  refine ⟨_, ha, fun j v hv => ?_⟩
  have hj : j < l.length := by
    rcases Nat.lt_or_ge j l.length with h | h
    · exact h
    · rw [List.getElem?_eq_none (by rw [ints_len]; exact h)] at hv; cases hv
  rw [ints_at l j hj] at hv
  cases hv
  have := hr j (by rw [h.len]; exact hj)
  rw [show (⟨b, o, none⟩ : Addr).add j = ⟨b, o + j, none⟩ by simp [Addr.add]]
  exact this

theorem startB_bad {ps : List Fn} {args : List Int} {fuel : Int} (h : startB ps args fuel = false) : startV ps args fuel = noSt ∧ startE ps args fuel = 600 := by unfold startV startE; rw [h]; exact ⟨rfl, rfl⟩

end Go.Proofs.YtppmkoigblimmaaGreatDoor

namespace Go.Proofs.YtppmkoigblimmaaGreatDoor
open Go.RowKit
set_option linter.unusedVariables false

/-- 'append([]int{}, x...)'. -/
theorem wpList_copyI {ops : Array Oper} {rest : List Oper} {o : Oper} {a : Act} {Q : Exit → Act → World → Prop} (w0 w : World) (hgd : o.guard = none) (s x : Operand)
    (ho : o.op = .call { callee := .builtin .append, args := #[s, x], argTypes := #[28, 28] }) (hw : w = w0.alloc (.cells #[] 3)) (H : Nat) (hH : w0.heap.size = H) (hs : a.eval s = .slice (some ⟨H, 0, none⟩) 0 0)
    (sa : Option Addr) (sn sc : Nat) (l : List Int) (hx : a.eval x = .slice sa sn sc) (hi : Ints w0 sa sn sc l)
    (h : ∀ a' n' c' w', w'.ownsRow H 3 1 (.slice a' n' c') l.length (ints l) → Below H w0 w' → wpList Tryz.prog ops Q rest (a.put o.dst (.slice a' n' c')) w') : wpList Tryz.prog ops Q (o :: rest) a w := by
  subst hw
  subst hH
  obtain ⟨i0, hinf, hz0, hz1, hz2⟩ := info_parts Tryz.infoInt
  have hown0 : (w0.alloc (.cells #[] 3)).ownsRow w0.heap.size 3 1 (.slice (some ⟨w0.heap.size, 0, none⟩) 0 0) 0 [] := World.ownsRow_lit w0 #[] 0 (Nat.le_refl _) (by simp [maxLen]) rfl
  have hA : Below w0.heap.size w0 (w0.alloc (.cells #[] 3)) := Below.alloc (Below.refl _ _) (Nat.le_refl _) _
  cases sa with
  | none =>
    obtain ⟨rfl, rfl⟩ := hi.nilc rfl
    obtain rfl : l = [] := List.length_eq_zero_iff.1 hi.len.symm
    exact wpList_append_own_none hgd s x 28 ho w0.heap.size 3 i0 1 Tryz.underlying28 hinf _ 0 [] hs hown0 hx (h _ _ _ _ hown0 hA)
  | some ad =>
    have hr := hi.room
    refine wpList_append_own _ hgd s x 28 ho w0.heap.size 3 i0 (.int .i64 0) 1 8 Tryz.underlying28 hinf hz0 hz1 hz2 rfl (by decide) _ 0 [] hs hown0 ad sn sc (ints l) hx (by rw [ints_len, hi.len, Nat.mul_one]) ?_ (ints_one l) (by unfold maxLen; omega) (by omega) (by simp) ?_
    · intro j u hu
      have h0 : 0 < (ints l).length := by
        rcases Nat.eq_zero_or_pos (ints l).length with h0 | h0
        · rw [List.getElem?_eq_none (by omega)] at hu; cases hu
        · exact h0
      obtain ⟨ad', e, hc⟩ := ints_src (hi.kept hA) h0
      cases e
      exact hc j u hu
    · intro v' w' ho' hg _
      simp only [Nat.zero_add, List.nil_append] at ho'
      rw [hi.len] at ho'
      have hb : Below w0.heap.size w0 w' := Below.grown hA hg (by simp) (by intro k hk; cases hk; exact Nat.le_refl _)
      obtain ⟨a', n', c', rfl, _⟩ := ints_of_owns ho' (by rw [← hi.len]; exact hr)
      exact h a' n' c' w' ho' hb

/-- A frame's four cells in a block of its own, the last two to be written. -/
structure FX (w : World) (F : Nat) (x y : Int) (u v : Value) : Prop where
  c0 : w.cell? ⟨F, 0, none⟩ = some (.int .i64 x)
  c1 : w.cell? ⟨F, 1, none⟩ = some (.int .i64 y)
  c2 : w.cell? ⟨F, 2, none⟩ = some u
  c3 : w.cell? ⟨F, 3, none⟩ = some v
  f2 : w.frozen? ⟨F, 2, none⟩ = false
  f3 : w.frozen? ⟨F, 3, none⟩ = false
theorem FX.kept {w w' : World} {F : Nat} {x y : Int} {u v : Value} (h : FX w F x y u v) (hb : Below w.heap.size w w') : FX w' F x y u v :=
  ⟨kept_cell hb h.c0, kept_cell hb h.c1, kept_cell hb h.c2, kept_cell hb h.c3, by rw [hb.frozen (lt_of_cell h.c2)]; exact h.f2, by rw [hb.frozen (lt_of_cell h.c3)]; exact h.f3⟩
theorem FX.set2 {w : World} {F : Nat} {x y : Int} {u v : Value} (h : FX w F x y u v) (u' : Value) : FX (w.setCell ⟨F, 2, none⟩ u') F x y u' v :=
  ⟨by rw [World.cell?_setCell_other _ _ _ _ (by simp)]; exact h.c0, by rw [World.cell?_setCell_other _ _ _ _ (by simp)]; exact h.c1, World.cell?_setCell_same _ _ _ h.c2, by rw [World.cell?_setCell_other _ _ _ _ (by simp)]; exact h.c3, by simp [h.f2], by simp [h.f3]⟩
theorem FX.set3 {w : World} {F : Nat} {x y : Int} {u v : Value} (h : FX w F x y u v) (v' : Value) : FX (w.setCell ⟨F, 3, none⟩ v') F x y u v' :=
  ⟨by rw [World.cell?_setCell_other _ _ _ _ (by simp)]; exact h.c0, by rw [World.cell?_setCell_other _ _ _ _ (by simp)]; exact h.c1, by rw [World.cell?_setCell_other _ _ _ _ (by simp)]; exact h.c2, World.cell?_setCell_same _ _ _ h.c3, by simp [h.f2], by simp [h.f3]⟩

/-- A state's five cells in a block, its frames and its prints to be written. -/
structure SX (w : World) (b : Nat) (u : Value) (fu : Int) (o : Value) (dn vl : Int) : Prop where
  c0 : w.cell? ⟨b, 0, none⟩ = some u
  c1 : w.cell? ⟨b, 1, none⟩ = some (.int .i64 fu)
  c2 : w.cell? ⟨b, 2, none⟩ = some o
  c3 : w.cell? ⟨b, 3, none⟩ = some (.int .i64 dn)
  c4 : w.cell? ⟨b, 4, none⟩ = some (.int .i64 vl)
  f0 : w.frozen? ⟨b, 0, none⟩ = false
  f2 : w.frozen? ⟨b, 2, none⟩ = false
theorem SX.frm {S : Nat → Prop} {w w' : World} {b : Nat} {u o : Value} {fu dn vl : Int} (h : SX w b u fu o dn vl) (hf : Frm S w w') (hb : ¬ S b) : SX w' b u fu o dn vl :=
  ⟨hf.cell h.c0 hb, hf.cell h.c1 hb, hf.cell h.c2 hb, hf.cell h.c3 hb, hf.cell h.c4 hb, hf.free h.c0 h.f0 hb, hf.free h.c2 h.f2 hb⟩
theorem SX.kept {w w' : World} {b : Nat} {u o : Value} {fu dn vl : Int} (h : SX w b u fu o dn vl) (hb : Below w.heap.size w w') : SX w' b u fu o dn vl := h.frm (Frm.of_below (S := fun _ => False) hb) (fun k => k)
theorem SX.set0 {w : World} {b : Nat} {u o : Value} {fu dn vl : Int} (h : SX w b u fu o dn vl) (u' : Value) : SX (w.setCell ⟨b, 0, none⟩ u') b u' fu o dn vl :=
  ⟨World.cell?_setCell_same _ _ _ h.c0, by rw [World.cell?_setCell_other _ _ _ _ (by simp)]; exact h.c1, by rw [World.cell?_setCell_other _ _ _ _ (by simp)]; exact h.c2, by rw [World.cell?_setCell_other _ _ _ _ (by simp)]; exact h.c3, by rw [World.cell?_setCell_other _ _ _ _ (by simp)]; exact h.c4, by simp [h.f0], by simp [h.f2]⟩
theorem SX.set2 {w : World} {b : Nat} {u o : Value} {fu dn vl : Int} (h : SX w b u fu o dn vl) (o' : Value) : SX (w.setCell ⟨b, 2, none⟩ o') b u fu o' dn vl :=
  ⟨by rw [World.cell?_setCell_other _ _ _ _ (by simp)]; exact h.c0, by rw [World.cell?_setCell_other _ _ _ _ (by simp)]; exact h.c1, World.cell?_setCell_same _ _ _ h.c2, by rw [World.cell?_setCell_other _ _ _ _ (by simp)]; exact h.c3, by rw [World.cell?_setCell_other _ _ _ _ (by simp)]; exact h.c4, by simp [h.f0], by simp [h.f2]⟩
theorem Z5.frm {S : Nat → Prop} {w w' : World} {b : Nat} (h : Z5 w b) (hf : Frm S w w') (hb : ¬ S b) : Z5 w' b :=
  ⟨hf.cell h.c0 hb, hf.cell h.c1 hb, hf.cell h.c2 hb, hf.cell h.c3 hb, hf.cell h.c4 hb, hf.free h.c0 h.f0 hb, hf.free h.c1 h.f1 hb, hf.free h.c2 h.f2 hb, hf.free h.c3 h.f3 hb, hf.free h.c4 h.f4 hb⟩

end Go.Proofs.YtppmkoigblimmaaGreatDoor

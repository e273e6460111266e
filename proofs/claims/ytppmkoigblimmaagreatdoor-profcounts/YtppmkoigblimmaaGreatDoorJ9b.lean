/- 'append([]T{}, x...)' of a slice of structs without slices: another one, in memory of its own. Nothing of the program is named here. Counts: the document's own counts, more. The document's own ProfMay. What make lays for a profile: rows of nothing. A region that draws its order, whose last operation (number k) turns a cell that an earlier one reads: what is held may hang on whether k has come up. Nothing of the program is named here. The document's own New. Written by newgen.py. CopyProf of package swageref9. Written by copygen.py. -/
import Derived.Test.YtppmkoigblimmaaGreatDoorJ9a
import Derived.OwnWalk
import Derived.Deep.AppendLies
import Derived.Laws.AppendOwnNone
import Derived.Test.YtppmkoigblimmaaGreatDoorIns
import Derived.Test.YtppmkoigblimmaaGreatDoorMemInts
import Derived.Test.YtppmkoigblimmaaGreatDoorRefHeights
import Derived.Test.YtppmkoigblimmaaGreatDoorJ6b
import Derived.Deep.RegionHeld3
import Derived.Deep.DeepCutAuto
import Derived.Laws.MakeOwn
import Derived.Test.YtppmkoigblimmaaGreatDoorWrap
import Derived.Test.YtppmkoigblimmaaGreatDoorPair
namespace Go.Proofs.YtppmkoigblimmaaGreatDoor
open Go.RowKit
set_option linter.unusedVariables false

theorem wpList_copyF {α : Type} {P : Program} {L : Lay α} {cells : α → List Value} (F : Flat L cells) {ops : Array Oper} {rest : List Oper} {o : Oper} {a : Act} {Q : Exit → Act → World → Prop} (T TS bytes : Nat) (i0 : TypeInfo) (z : Value) (hu : P.underlying TS = some (.slice T)) (hinf : P.info? T = some i0) (hz0 : i0.zero = some z) (hz1 : i0.size = L.size) (hz2 : i0.bytes = bytes) (hzs : z.cells.size = L.size) (hsz : 0 < L.size) (hby : 0 < bytes)
    (w0 w : World) (hgd : o.guard = none) (s x : Operand) (ho : o.op = .call { callee := .builtin .append, args := #[s, x], argTypes := #[TS, TS] }) (hw : w = w0.alloc (.cells #[] T)) (H : Nat) (hH : w0.heap.size = H) (hs : a.eval s = .slice (some ⟨H, 0, none⟩) 0 0)
    (sa : Option Addr) (sn sc : Nat) (l : List α) (hx : a.eval x = .slice sa sn sc) (hi : Sl L bytes w0 sa sn sc l)
    (h : ∀ a' n' c' w', OSl L T bytes w' (fun b => H ≤ b) (.slice a' n' c') l → Below H w0 w' → wpList P ops Q rest (a.put o.dst (.slice a' n' c')) w') : wpList P ops Q (o :: rest) a w := by
  subst hw
  subst hH
  have hown0 : (w0.alloc (.cells #[] T)).ownsRow w0.heap.size T L.size (.slice (some ⟨w0.heap.size, 0, none⟩) 0 0) 0 [] := World.ownsRow_lit w0 #[] 0 (Nat.le_refl _) (by simp [maxLen]) (by simp)
  have hA : Below w0.heap.size w0 (w0.alloc (.cells #[] T)) := Below.alloc (Below.refl _ _) (Nat.le_refl _) _
  have hlr : l.length * bytes ≤ 140737488351232 := by rw [← hi.len]; exact hi.room
  cases sa with
  | none =>
    obtain ⟨rfl, rfl⟩ := hi.nilc rfl
    obtain rfl : l = [] := List.length_eq_zero_iff.1 hi.len.symm
    exact wpList_append_own_none hgd s x TS ho w0.heap.size T i0 L.size hu hinf _ 0 [] hs hown0 hx (h _ _ _ _ (F.osl hlr hown0 (fun g hg => (hown0.lt g hg).1)) hA)
  | some ad =>
    have hr := hi.room
    have hn : sn ≤ 140737488351232 := Nat.le_trans (Nat.le_mul_of_pos_right sn hby) hr
    refine wpList_append_own _ hgd s x TS ho w0.heap.size T i0 z L.size bytes hu hinf hz0 hz1 hz2 hzs hsz _ 0 [] hs hown0 ad sn sc (cellsOf cells l) hx (by rw [F.lenOf, hi.len]) ?_ (F.one l) (by unfold maxLen; omega) (by rw [Nat.zero_add]; omega) (by simp) ?_
    · intro j u hu'
      have hpos : 0 < sn := by
        rw [hi.len]
        cases l with
        | nil => simp [cellsOf] at hu'
        | cons p r => simp
      obtain ⟨b, off, e, hrow⟩ := (hi.kept hA).row hpos
      cases e
      have hc := F.cells hsz hrow j u hu'
      rwa [show (⟨b, off, none⟩ : Addr).add j = ⟨b, off + j, none⟩ by simp [Addr.add]]
    · intro v' w' ho' hg _
      simp only [Nat.zero_add, List.nil_append] at ho'
      rw [hi.len] at ho'
      have hb : Below w0.heap.size w0 w' := Below.grown hA hg (by simp) (by intro k hk; cases hk; exact Nat.le_refl _)
      have os := F.osl (B := fun b => w0.heap.size ≤ b) hlr ho' (fun g hg => (ho'.lt g hg).1)
      obtain ⟨a', n', c', rfl, _⟩ := os.reads
      exact h a' n' c' w' os hb

end Go.Proofs.YtppmkoigblimmaaGreatDoor

namespace Go.Proofs.YtppmkoigblimmaaGreatDoor
open Go.RowKit
set_option linter.unusedVariables false

set_option maxHeartbeats 1000000 in
theorem refCounts_any (a : Option Addr) (n c : Nat) (l : List Int) (k : Int) (w : World) (h : Ints w a n c l) :
    Calls Tryz.prog 34 #[.slice a n c, .int .i64 k] w fun e w' => e = .returned (.bool (cntsB l k)) ∧ w' = w := by
  have hr := h.room
  have hc := h.cap
  have L := hid h.len
  go_enter Tryz.func34, Tryz.ntmps34
  go_wp2
  go_loop [5] (fun i => ∃ q : Nat, q ≤ n ∧ i = .int .i64 q ∧ (l.take q).all cntB = true) (fun i => n - (intOf i).toNat)
  case atStart => exact ⟨0, Nat.zero_le _, rfl, rfl⟩
  case round =>
    obtain ⟨q, hq, rfl, ha⟩ := hrel
    have HA := hid ha
    clear ha
    by_cases hlt : q < n
    · obtain ⟨b, o, rfl, hr1⟩ := h.row (by omega)
      have c0 := hr1 q hlt
      have hx : l[q]? = some (l.getD q 0) := by rw [List.getD_eq_getElem?_getD, List.getElem?_eq_getElem (by have := L.out; omega)]; rfl
      generalize l.getD q 0 = x at c0 hx
      have HX := hid hx
      clear hr1 hx
      by_cases h1 : x < 0
      · go_wp2
        go_ret
        exact ⟨ret_bool (by unfold cntsB; rw [allP_not HX.out (by simp [cntB]; omega)]; rfl), rfl⟩
      · by_cases h2 : 1073741824 < x
        · go_wp2
          go_ret
          exact ⟨ret_bool (by unfold cntsB; rw [allP_not HX.out (by simp [cntB]; omega)]; rfl), rfl⟩
        · go_wp2
          go_round
          case rel => exact ⟨q + 1, by omega, by go_num, allP_step HA.out HX.out (by simp [cntB]; omega)⟩
          case measure => simp [intOf]; omega
    · by_cases hk : (n : Int) = k
      · go_wp2
        go_ret
        exact ⟨ret_bool (by have h := HA.out; rw [List.take_of_length_le (by have := L.out; omega)] at h; unfold cntsB; rw [h]; have := L.out; simp; omega), rfl⟩
      · have hk' : ((n : Int) == k) = false := by simpa using hk
        go_wp2
        go_ret
        exact ⟨ret_bool (by have h := HA.out; rw [List.take_of_length_le (by have := L.out; omega)] at h; unfold cntsB; rw [h]; have := L.out; simp; omega), rfl⟩

set_option maxHeartbeats 400000 in
theorem refMore_any (x : Int) (h0 : 0 ≤ x) (h1 : x ≤ 1073741824) (w : World) : Calls Tryz.prog 28 #[.int .i64 x] w fun e w' => e = .returned (.int .i64 (moreI x)) ∧ w' = w := by
  by_cases h : x < 1073741824
  · go_enter Tryz.func28, Tryz.ntmps28
    go_wp2
    go_ret
    exact ⟨ret_int (by unfold moreI; rw [if_pos (by omega)] <;> omega), rfl⟩
  · go_enter Tryz.func28, Tryz.ntmps28
    go_wp2
    go_ret
    exact ⟨ret_int (by unfold moreI; rw [if_neg (by omega)] <;> omega), rfl⟩

end Go.Proofs.YtppmkoigblimmaaGreatDoor

namespace Go.Proofs.YtppmkoigblimmaaGreatDoor
open Go.RowKit
set_option linter.unusedVariables false

theorem calls_inU {P : Program} {f : FuncId} {args : Array Value} {W U : World} {Q : Ending → World → Prop} (h : U = W) (k : Calls P f args U Q) : Calls P f args W Q := h ▸ k
theorem qDrew {B : Nat} {u y : World} (h : Below B u y) : Below B u y.drew := Below.drew h
theorem qAlloc {U y : World} {o : Obj} (h : Below U.heap.size U y) : Below U.heap.size U (y.alloc o) := Below.alloc h h.size o

set_option maxRecDepth 100000 in
set_option maxHeartbeats 8000000 in
theorem refProfMay_any (pa : Option Addr) (pn pc : Nat) (ps : List Fn) (ra : Option Addr) (rn rc : Nat) (l : List Fp) (w : World) (hp : Fns w pa pn pc ps) (hr : Sl layFp 80 w ra rn rc l) :
    Calls Tryz.prog 17 #[.agg #[.slice pa pn pc], .agg #[.slice ra rn rc]] w fun e w' => e = .returned (.bool (profB ps l)) ∧ Below w.heap.size w w' := by
  have LP := hid hp.len
  have LR := hid hr.len
  have hpr := hp.room
  have hpc := hp.cap
  have hrr := hr.room
  have hrc := hr.cap
  have HP := hid hp
  have HR := hid hr
  clear hp hr
  have W2 : Hid (∃ U : World, U = (w.alloc (.cells #[.slice pa pn pc] 24)).alloc (.cells #[.slice ra rn rc] 27)) := hid ⟨_, rfl⟩
  obtain ⟨w2, hw2⟩ := W2.out
  have B2 : Hid (Below w.heap.size w w2) := hid (by rw [hw2]; go_grown)
  have P2 : Hid (w2.cell? ⟨w.heap.size, 0, none⟩ = some (.slice pa pn pc)) := hid (by rw [hw2]; simp [go_sem])
  have R2 : Hid (w2.cell? ⟨w.heap.size + 1, 0, none⟩ = some (.slice ra rn rc)) := hid (by rw [hw2]; simp [go_sem])
  have E2 := hid hw2
  clear hw2 W2
  go_enter Tryz.func17, Tryz.ntmps17
  go_wp2_with fail
  refine calls_inU (U := w2) (by rw [E2.out]) ?_
  refine (refVerify_any _ _ _ ps _ (HP.out.kept B2.out)).mono ?_
  rintro e w3 ⟨rfl, b3⟩
  have B3 := hid (kt B2.out b3)
  have p3 := kept_cell b3 P2.out
  have r3 := kept_cell b3 R2.out
  have P3 := hid p3
  have R3 := hid r3
  clear b3 E2 P2 R2
  by_cases hv : verV ps = 0
  rotate_left
  · have hv' : (verV ps != 0) = true := by simpa using hv
    go_wp2_with fail
    go_ret
    exact ⟨ret_bool (by simp [profB, hv]), B3.out⟩
  have HV := hid hv
  have hv' : (verV ps != 0) = false := by simpa using hv
  clear hv
  by_cases hn : rn = pn
  rotate_left
  · have hn' : ((rn : Int) != (pn : Int)) = true := by simp; omega
    go_wp2_with fail
    go_ret
    exact ⟨ret_bool (by unfold profB; rw [show decide (l.length = ps.length) = false by rw [← LP.out, ← LR.out]; simpa using hn]; simp), B3.out⟩
  subst hn
  go_wp2_with fail
  go_loopw [5] (fun i wr => ∃ q : Nat, q ≤ rn ∧ i = .int .i64 q ∧ fpsB ps l q = true ∧ Below w3.heap.size w3 wr) (fun i _ => rn - (intOf i).toNat)
  case atStart => exact ⟨0, Nat.zero_le _, rfl, rfl, Below.refl _ _⟩
  case round =>
    clear p3 r3
    obtain ⟨q, hq, rfl, hf, hb⟩ := hrel
    obtain ⟨V, hV⟩ : ∃ V : World, V = wr := ⟨_, rfl⟩
    subst hV
    have HF := hid hf
    have HB := hid hb
    have p4 := kept_cell hb P3.out
    have r4 := kept_cell hb R3.out
    clear hf
    by_cases hlt : q < rn
    · obtain ⟨b0, o0, x, ja, jn, jc, jl, fa, fn, fc, fl, aa, an, ac, al, rfl, hx, c0, c1, c2, c3, i1, i2, i3⟩ := fp_at (HR.out.kept (kt B3.out hb)) q hlt
      obtain ⟨b5, o5, fx, fy, ca, cn, cc, code, rfl, hfn, d0, d1, d2, i5⟩ := (HP.out.kept (kt B3.out hb)).at q hlt
      have HX := hid hx
      have HFN := hid hfn
      have CL := hid i5.len
      have AL := hid i3.len
      have HI := hid (And.intro i1 (And.intro i2 i3))
      have h3r := i3.room
      have h3c := i3.cap
      have h5r := i5.room
      have hlit : Hid (∀ u : World, Ints (u.alloc (.cells #[.int .i64 x] 3)) (some ⟨u.heap.size, 0, none⟩) 1 1 [x]) := hid (fun u => ints_lit9 u [x] 3 (by simp))
      have W6 : Hid (∃ U : World, U = V.alloc (.cells #[.int .i64 x, .slice ja jn jc, .slice fa fn fc, .slice aa an ac] 51)) := hid ⟨_, rfl⟩
      obtain ⟨U, hU⟩ := W6.out
      have A6 : Hid (Below V.heap.size V U) := hid (by rw [hU]; exact Below.alloc (Below.refl _ _) (Nat.le_refl _) _)
      have F6 : Hid (FPX U V.heap.size x (.slice ja jn jc) (.slice fa fn fc) (.slice aa an ac)) := hid (by rw [hU]; exact ⟨by simp [go_sem], by simp [go_sem], by simp [go_sem], by simp [go_sem]⟩)
      have C6 := hid (And.intro (kept_cell A6.out p4) (And.intro (kept_cell A6.out r4) (And.intro (kept_cell A6.out d0) (kept_cell A6.out d2))))
      have E6 := hid hU
      clear hU W6 hx hfn i1 i2 i3 i5 hb
      go_upto_region 7 with fail
      refine wp_world (U := U) E6.out ?_
      have u0 := C6.out.1
      have u1 := C6.out.2.1
      have u2 := C6.out.2.2.1
      have u3 := C6.out.2.2.2
      clear p4 r4 c0 c1 c2 c3 d0 d1 d2
      go_wp2_with fail
      have J1 := hid (HI.out.1.kept A6.out)
      have J2 := hid (HI.out.2.1.kept A6.out)
      have J3 := hid (HI.out.2.2.kept A6.out)
      have NL : Hid (Ints ((U.alloc (.cells #[.int .i64 x] 3)).drew) (some ⟨U.heap.size, 0, none⟩) 1 1 [x]) := hid ((hlit.out U).kept (Below.drew (Below.refl _ _)))
      have SA : Hid (∀ w', Below U.heap.size U w' → (w'.cell? ⟨V.heap.size, 0, none⟩ = some (.int .i64 x) ∧ w'.cell? ⟨V.heap.size, 1, none⟩ = some (.slice ja jn jc) ∧ w'.cell? ⟨V.heap.size, 2, none⟩ = some (.slice fa fn fc) ∧ w'.cell? ⟨V.heap.size, 3, none⟩ = some (.slice aa an ac) ∧ w'.cell? ⟨w.heap.size, 0, none⟩ = some (.slice (some ⟨b5, o5, none⟩) rn pc) ∧ w'.cell? ⟨b5, o5 + q * 3, none⟩ = some (.int .i64 fx))) := hid (fun w' b => ⟨kept_cell b F6.out.c0, kept_cell b F6.out.c1, kept_cell b F6.out.c2, kept_cell b F6.out.c3, kept_cell b C6.out.1, kept_cell b C6.out.2.2.1⟩)
      have BC : Below U.heap.size U U := Below.refl _ _
      have hq0 : (0 : Int) ≤ (q : Int) := by omega
      have hq1 : (q : Int) < (rn : Int) := by omega
      have HD : Hid (fpHeadB (fx, fy, code) (x, jl, fl, al) = (cntsB [x] 1 && (cntsB jl (cn : Int) && (cntsB fl (cn : Int) && decide ((an : Int) = fx))))) := hid (by unfold fpHeadB; simp only []; rw [← CL.out, ← AL.out])
      clear u0 u1 u2 u3
      go_cut [70] (fun s wx => s = .bool (!(fpHeadB (fx, fy, code) (x, jl, fl, al))) ∧ Below U.heap.size U wx)
      case first =>
        cases h1 : cntsB [x] 1
        · refine wp_region_held_drew (S := fun w' => w'.cell? ⟨V.heap.size, 0, none⟩ = some (.int .i64 x) ∧ w'.cell? ⟨V.heap.size, 1, none⟩ = some (.slice ja jn jc) ∧ w'.cell? ⟨V.heap.size, 2, none⟩ = some (.slice fa fn fc) ∧ w'.cell? ⟨V.heap.size, 3, none⟩ = some (.slice aa an ac) ∧ w'.cell? ⟨w.heap.size, 0, none⟩ = some (.slice (some ⟨b5, o5, none⟩) rn pc) ∧ w'.cell? ⟨b5, o5 + q * 3, none⟩ = some (.int .i64 fx)) (by kernel_rfl) ?_ (fun hH0 => ?_)
          · (try dsimp only); (refine SA.out _ ?_; (repeat (first | with_reducible exact BC | with_reducible refine qDrew ?_ | with_reducible refine qAlloc ?_)))
          first
            | (refine wpAnyH_take (i := 0) (oi := ⟨_, _, _, _, _, _⟩) (v := undef) rfl (by kernel_rfl) (by kernel_rfl) (by kernel_rfl) (fun _ _ _ h => h) (Or.inr ⟨by rfl, rfl⟩) (by exact hH0) ?_)
            | (refine wpAnyH_take (i := 0) (oi := ⟨_, _, _, _, _, _⟩) (v := ?_) rfl (by kernel_rfl) (by kernel_rfl) (by kernel_rfl) (fun _ _ _ h => h) (Or.inl ⟨by rfl, ?_⟩) (by exact hH0) ?_; rotate_left; (focus (intro x hx; (try dsimp only at hx); go_simp; try (with_reducible rfl))))
          try simp only [Act.put, List.setIfInBounds_toArray, List.set_cons_zero, List.set_cons_succ]
          first
            | (refine wpAnyH_take (i := 1) (oi := ⟨_, _, _, _, _, _⟩) (v := undef) rfl (by kernel_rfl) (by kernel_rfl) (by kernel_rfl) (fun _ _ _ h => h) (Or.inr ⟨by rfl, rfl⟩) (by exact hH0) ?_)
            | (refine wpAnyH_take (i := 1) (oi := ⟨_, _, _, _, _, _⟩) (v := ?_) rfl (by kernel_rfl) (by kernel_rfl) (by kernel_rfl) (fun _ _ _ h => h) (Or.inl ⟨by rfl, ?_⟩) (by exact hH0) ?_; rotate_left; (focus (intro x hx; (try dsimp only at hx); go_simp; try (with_reducible rfl))))
          try simp only [Act.put, List.setIfInBounds_toArray, List.set_cons_zero, List.set_cons_succ]
          first
            | (refine wpAnyH_take (i := 2) (oi := ⟨_, _, _, _, _, _⟩) (v := undef) rfl (by kernel_rfl) (by kernel_rfl) (by kernel_rfl) (fun _ _ _ h => h) (Or.inr ⟨by rfl, rfl⟩) (by exact hH0) ?_; have hH1 := hH0)
            | (refine wpAnyH_ready (rs := [2]) (by kernel_rfl) (by simp) ?_; refine AllReadyH.cons (o := ⟨_, _, _, _, _, _⟩) rfl (fun K hK => ?_) ?_; rotate_left; (focus exact AllReadyH.nil); go_simp; refine hK.out _ _ ?_ (fun hH1 => ?_); (focus ((try dsimp only); (refine SA.out _ ?_; (repeat (first | with_reducible exact BC | with_reducible refine qDrew ?_ | with_reducible refine qAlloc ?_))))); clear hK K)
          try simp only [Act.put, List.setIfInBounds_toArray, List.set_cons_zero, List.set_cons_succ]
          first
            | (refine wpAnyH_take (i := 3) (oi := ⟨_, _, _, _, _, _⟩) (v := undef) rfl (by kernel_rfl) (by kernel_rfl) (by kernel_rfl) (fun _ _ _ h => h) (Or.inr ⟨by rfl, rfl⟩) (by exact hH1) ?_; have hH2 := hH1)
            | (refine wpAnyH_ready (rs := [3]) (by kernel_rfl) (by simp) ?_; refine AllReadyH.cons (o := ⟨_, _, _, _, _, _⟩) rfl (fun K hK => ?_) ?_; rotate_left; (focus exact AllReadyH.nil); go_simp; go_at_call 34; refine (refCounts_any _ 1 1 [x] 1 _ NL.out).mono ?_; rw [h1]; rintro e y1 ⟨rfl, hw⟩; rw [hw]; clear hw; refine hK.out _ _ ?_ (fun hH2 => ?_); (focus ((try dsimp only); (refine SA.out _ ?_; (repeat (first | with_reducible exact BC | with_reducible refine qDrew ?_ | with_reducible refine qAlloc ?_))))); clear hK K)
          try simp only [Act.put, List.setIfInBounds_toArray, List.set_cons_zero, List.set_cons_succ]
          first
            | (refine wpAnyH_take (i := 4) (oi := ⟨_, _, _, _, _, _⟩) (v := undef) rfl (by kernel_rfl) (by kernel_rfl) (by kernel_rfl) (fun _ _ _ h => h) (Or.inr ⟨by rfl, rfl⟩) (by exact hH2) ?_)
            | (refine wpAnyH_take (i := 4) (oi := ⟨_, _, _, _, _, _⟩) (v := ?_) rfl (by kernel_rfl) (by kernel_rfl) (by kernel_rfl) (fun _ _ _ h => h) (Or.inl ⟨by rfl, ?_⟩) (by exact hH2) ?_; rotate_left; (focus (intro x hx; (try dsimp only at hx); go_simp; try (with_reducible rfl))))
          try simp only [Act.put, List.setIfInBounds_toArray, List.set_cons_zero, List.set_cons_succ]
          first
            | (refine wpAnyH_take (i := 5) (oi := ⟨_, _, _, _, _, _⟩) (v := undef) rfl (by kernel_rfl) (by kernel_rfl) (by kernel_rfl) (fun _ _ _ h => h) (Or.inr ⟨by rfl, rfl⟩) (by exact hH2) ?_)
            | (refine wpAnyH_take (i := 5) (oi := ⟨_, _, _, _, _, _⟩) (v := ?_) rfl (by kernel_rfl) (by kernel_rfl) (by kernel_rfl) (fun _ _ _ h => h) (Or.inl ⟨by rfl, ?_⟩) (by exact hH2) ?_; rotate_left; (focus (intro x hx; (try dsimp only at hx); go_simp; try (with_reducible rfl))))
          try simp only [Act.put, List.setIfInBounds_toArray, List.set_cons_zero, List.set_cons_succ]
          first
            | (refine wpAnyH_take (i := 6) (oi := ⟨_, _, _, _, _, _⟩) (v := undef) rfl (by kernel_rfl) (by kernel_rfl) (by kernel_rfl) (fun _ _ _ h => h) (Or.inr ⟨by rfl, rfl⟩) (by exact hH2) ?_)
            | (refine wpAnyH_take (i := 6) (oi := ⟨_, _, _, _, _, _⟩) (v := ?_) rfl (by kernel_rfl) (by kernel_rfl) (by kernel_rfl) (fun _ _ _ h => h) (Or.inl ⟨by rfl, ?_⟩) (by exact hH2) ?_; rotate_left; (focus (intro x hx; (try dsimp only at hx); go_simp; try (with_reducible rfl))))
          try simp only [Act.put, List.setIfInBounds_toArray, List.set_cons_zero, List.set_cons_succ]
          first
            | (refine wpAnyH_take (i := 7) (oi := ⟨_, _, _, _, _, _⟩) (v := undef) rfl (by kernel_rfl) (by kernel_rfl) (by kernel_rfl) (fun _ _ _ h => h) (Or.inr ⟨by rfl, rfl⟩) (by exact hH2) ?_)
            | (refine wpAnyH_take (i := 7) (oi := ⟨_, _, _, _, _, _⟩) (v := ?_) rfl (by kernel_rfl) (by kernel_rfl) (by kernel_rfl) (fun _ _ _ h => h) (Or.inl ⟨by rfl, ?_⟩) (by exact hH2) ?_; rotate_left; (focus (intro x hx; (try dsimp only at hx); go_simp; try (with_reducible rfl))))
          try simp only [Act.put, List.setIfInBounds_toArray, List.set_cons_zero, List.set_cons_succ]
          first
            | (refine wpAnyH_take (i := 8) (oi := ⟨_, _, _, _, _, _⟩) (v := undef) rfl (by kernel_rfl) (by kernel_rfl) (by kernel_rfl) (fun _ _ _ h => h) (Or.inr ⟨by rfl, rfl⟩) (by exact hH2) ?_)
            | (refine wpAnyH_take (i := 8) (oi := ⟨_, _, _, _, _, _⟩) (v := ?_) rfl (by kernel_rfl) (by kernel_rfl) (by kernel_rfl) (fun _ _ _ h => h) (Or.inl ⟨by rfl, ?_⟩) (by exact hH2) ?_; rotate_left; (focus (intro x hx; (try dsimp only at hx); go_simp; try (with_reducible rfl))))
          try simp only [Act.put, List.setIfInBounds_toArray, List.set_cons_zero, List.set_cons_succ]
          first
            | (refine wpAnyH_take (i := 9) (oi := ⟨_, _, _, _, _, _⟩) (v := undef) rfl (by kernel_rfl) (by kernel_rfl) (by kernel_rfl) (fun _ _ _ h => h) (Or.inr ⟨by rfl, rfl⟩) (by exact hH2) ?_; have hH3 := hH2)
            | (refine wpAnyH_ready (rs := [9]) (by kernel_rfl) (by simp) ?_; refine AllReadyH.cons (o := ⟨_, _, _, _, _, _⟩) rfl (fun K hK => ?_) ?_; rotate_left; (focus exact AllReadyH.nil); go_simp; go_at_call 34; refine (refCounts_any ja jn jc jl _ _ (Ints.kept ?hk J1.out)).mono ?_; (case hk => (repeat (first | with_reducible exact BC | with_reducible refine qDrew ?_ | with_reducible refine qAlloc ?_))); rintro e y1 ⟨rfl, hw⟩; rw [hw]; clear hw; refine hK.out _ _ ?_ (fun hH3 => ?_); (focus ((try dsimp only); (refine SA.out _ ?_; (repeat (first | with_reducible exact BC | with_reducible refine qDrew ?_ | with_reducible refine qAlloc ?_))))); clear hK K)
          try simp only [Act.put, List.setIfInBounds_toArray, List.set_cons_zero, List.set_cons_succ]
          first
            | (refine wpAnyH_take (i := 10) (oi := ⟨_, _, _, _, _, _⟩) (v := undef) rfl (by kernel_rfl) (by kernel_rfl) (by kernel_rfl) (fun _ _ _ h => h) (Or.inr ⟨by rfl, rfl⟩) (by exact hH3) ?_)
            | (refine wpAnyH_take (i := 10) (oi := ⟨_, _, _, _, _, _⟩) (v := ?_) rfl (by kernel_rfl) (by kernel_rfl) (by kernel_rfl) (fun _ _ _ h => h) (Or.inl ⟨by rfl, ?_⟩) (by exact hH3) ?_; rotate_left; (focus (intro x hx; (try dsimp only at hx); go_simp; try (with_reducible rfl))))
          try simp only [Act.put, List.setIfInBounds_toArray, List.set_cons_zero, List.set_cons_succ]
          first
            | (refine wpAnyH_take (i := 11) (oi := ⟨_, _, _, _, _, _⟩) (v := undef) rfl (by kernel_rfl) (by kernel_rfl) (by kernel_rfl) (fun _ _ _ h => h) (Or.inr ⟨by rfl, rfl⟩) (by exact hH3) ?_)
            | (refine wpAnyH_take (i := 11) (oi := ⟨_, _, _, _, _, _⟩) (v := ?_) rfl (by kernel_rfl) (by kernel_rfl) (by kernel_rfl) (fun _ _ _ h => h) (Or.inl ⟨by rfl, ?_⟩) (by exact hH3) ?_; rotate_left; (focus (intro x hx; (try dsimp only at hx); go_simp; try (with_reducible rfl))))
          try simp only [Act.put, List.setIfInBounds_toArray, List.set_cons_zero, List.set_cons_succ]
          first
            | (refine wpAnyH_take (i := 12) (oi := ⟨_, _, _, _, _, _⟩) (v := undef) rfl (by kernel_rfl) (by kernel_rfl) (by kernel_rfl) (fun _ _ _ h => h) (Or.inr ⟨by rfl, rfl⟩) (by exact hH3) ?_)
            | (refine wpAnyH_take (i := 12) (oi := ⟨_, _, _, _, _, _⟩) (v := ?_) rfl (by kernel_rfl) (by kernel_rfl) (by kernel_rfl) (fun _ _ _ h => h) (Or.inl ⟨by rfl, ?_⟩) (by exact hH3) ?_; rotate_left; (focus (intro x hx; (try dsimp only at hx); go_simp; try (with_reducible rfl))))
          try simp only [Act.put, List.setIfInBounds_toArray, List.set_cons_zero, List.set_cons_succ]
          first
            | (refine wpAnyH_take (i := 13) (oi := ⟨_, _, _, _, _, _⟩) (v := undef) rfl (by kernel_rfl) (by kernel_rfl) (by kernel_rfl) (fun _ _ _ h => h) (Or.inr ⟨by rfl, rfl⟩) (by exact hH3) ?_)
            | (refine wpAnyH_take (i := 13) (oi := ⟨_, _, _, _, _, _⟩) (v := ?_) rfl (by kernel_rfl) (by kernel_rfl) (by kernel_rfl) (fun _ _ _ h => h) (Or.inl ⟨by rfl, ?_⟩) (by exact hH3) ?_; rotate_left; (focus (intro x hx; (try dsimp only at hx); go_simp; try (with_reducible rfl))))
          try simp only [Act.put, List.setIfInBounds_toArray, List.set_cons_zero, List.set_cons_succ]
          first
            | (refine wpAnyH_take (i := 14) (oi := ⟨_, _, _, _, _, _⟩) (v := undef) rfl (by kernel_rfl) (by kernel_rfl) (by kernel_rfl) (fun _ _ _ h => h) (Or.inr ⟨by rfl, rfl⟩) (by exact hH3) ?_)
            | (refine wpAnyH_take (i := 14) (oi := ⟨_, _, _, _, _, _⟩) (v := ?_) rfl (by kernel_rfl) (by kernel_rfl) (by kernel_rfl) (fun _ _ _ h => h) (Or.inl ⟨by rfl, ?_⟩) (by exact hH3) ?_; rotate_left; (focus (intro x hx; (try dsimp only at hx); go_simp; try (with_reducible rfl))))
          try simp only [Act.put, List.setIfInBounds_toArray, List.set_cons_zero, List.set_cons_succ]
          first
            | (refine wpAnyH_take (i := 15) (oi := ⟨_, _, _, _, _, _⟩) (v := undef) rfl (by kernel_rfl) (by kernel_rfl) (by kernel_rfl) (fun _ _ _ h => h) (Or.inr ⟨by rfl, rfl⟩) (by exact hH3) ?_)
            | (refine wpAnyH_take (i := 15) (oi := ⟨_, _, _, _, _, _⟩) (v := ?_) rfl (by kernel_rfl) (by kernel_rfl) (by kernel_rfl) (fun _ _ _ h => h) (Or.inl ⟨by rfl, ?_⟩) (by exact hH3) ?_; rotate_left; (focus (intro x hx; (try dsimp only at hx); go_simp; try (with_reducible rfl))))
          try simp only [Act.put, List.setIfInBounds_toArray, List.set_cons_zero, List.set_cons_succ]
          first
            | (refine wpAnyH_take (i := 16) (oi := ⟨_, _, _, _, _, _⟩) (v := undef) rfl (by kernel_rfl) (by kernel_rfl) (by kernel_rfl) (fun _ _ _ h => h) (Or.inr ⟨by rfl, rfl⟩) (by exact hH3) ?_; have hH4 := hH3)
            | (refine wpAnyH_ready (rs := [16]) (by kernel_rfl) (by simp) ?_; refine AllReadyH.cons (o := ⟨_, _, _, _, _, _⟩) rfl (fun K hK => ?_) ?_; rotate_left; (focus exact AllReadyH.nil); go_simp; go_at_call 34; refine (refCounts_any fa fn fc fl _ _ (Ints.kept ?hk J2.out)).mono ?_; (case hk => (repeat (first | with_reducible exact BC | with_reducible refine qDrew ?_ | with_reducible refine qAlloc ?_))); rintro e y1 ⟨rfl, hw⟩; rw [hw]; clear hw; refine hK.out _ _ ?_ (fun hH4 => ?_); (focus ((try dsimp only); (refine SA.out _ ?_; (repeat (first | with_reducible exact BC | with_reducible refine qDrew ?_ | with_reducible refine qAlloc ?_))))); clear hK K)
          try simp only [Act.put, List.setIfInBounds_toArray, List.set_cons_zero, List.set_cons_succ]
          first
            | (refine wpAnyH_take (i := 17) (oi := ⟨_, _, _, _, _, _⟩) (v := undef) rfl (by kernel_rfl) (by kernel_rfl) (by kernel_rfl) (fun _ _ _ h => h) (Or.inr ⟨by rfl, rfl⟩) (by exact hH4) ?_)
            | (refine wpAnyH_take (i := 17) (oi := ⟨_, _, _, _, _, _⟩) (v := ?_) rfl (by kernel_rfl) (by kernel_rfl) (by kernel_rfl) (fun _ _ _ h => h) (Or.inl ⟨by rfl, ?_⟩) (by exact hH4) ?_; rotate_left; (focus (intro x hx; (try dsimp only at hx); go_simp; try (with_reducible rfl))))
          try simp only [Act.put, List.setIfInBounds_toArray, List.set_cons_zero, List.set_cons_succ]
          first
            | (refine wpAnyH_take (i := 18) (oi := ⟨_, _, _, _, _, _⟩) (v := undef) rfl (by kernel_rfl) (by kernel_rfl) (by kernel_rfl) (fun _ _ _ h => h) (Or.inr ⟨by rfl, rfl⟩) (by exact hH4) ?_)
            | (refine wpAnyH_take (i := 18) (oi := ⟨_, _, _, _, _, _⟩) (v := ?_) rfl (by kernel_rfl) (by kernel_rfl) (by kernel_rfl) (fun _ _ _ h => h) (Or.inl ⟨by rfl, ?_⟩) (by exact hH4) ?_; rotate_left; (focus (intro x hx; (try dsimp only at hx); go_simp; try (with_reducible rfl))))
          try simp only [Act.put, List.setIfInBounds_toArray, List.set_cons_zero, List.set_cons_succ]
          first
            | (refine wpAnyH_take (i := 19) (oi := ⟨_, _, _, _, _, _⟩) (v := undef) rfl (by kernel_rfl) (by kernel_rfl) (by kernel_rfl) (fun _ _ _ h => h) (Or.inr ⟨by rfl, rfl⟩) (by exact hH4) ?_)
            | (refine wpAnyH_take (i := 19) (oi := ⟨_, _, _, _, _, _⟩) (v := ?_) rfl (by kernel_rfl) (by kernel_rfl) (by kernel_rfl) (fun _ _ _ h => h) (Or.inl ⟨by rfl, ?_⟩) (by exact hH4) ?_; rotate_left; (focus (intro x hx; (try dsimp only at hx); go_simp; try (with_reducible rfl))))
          try simp only [Act.put, List.setIfInBounds_toArray, List.set_cons_zero, List.set_cons_succ]
          first
            | (refine wpAnyH_take (i := 20) (oi := ⟨_, _, _, _, _, _⟩) (v := undef) rfl (by kernel_rfl) (by kernel_rfl) (by kernel_rfl) (fun _ _ _ h => h) (Or.inr ⟨by rfl, rfl⟩) (by exact hH4) ?_)
            | (refine wpAnyH_take (i := 20) (oi := ⟨_, _, _, _, _, _⟩) (v := ?_) rfl (by kernel_rfl) (by kernel_rfl) (by kernel_rfl) (fun _ _ _ h => h) (Or.inl ⟨by rfl, ?_⟩) (by exact hH4) ?_; rotate_left; (focus (intro x hx; (try dsimp only at hx); go_simp; try (with_reducible rfl))))
          try simp only [Act.put, List.setIfInBounds_toArray, List.set_cons_zero, List.set_cons_succ]
          first
            | (refine wpAnyH_take (i := 21) (oi := ⟨_, _, _, _, _, _⟩) (v := undef) rfl (by kernel_rfl) (by kernel_rfl) (by kernel_rfl) (fun _ _ _ h => h) (Or.inr ⟨by rfl, rfl⟩) (by exact hH4) ?_)
            | (refine wpAnyH_take (i := 21) (oi := ⟨_, _, _, _, _, _⟩) (v := ?_) rfl (by kernel_rfl) (by kernel_rfl) (by kernel_rfl) (fun _ _ _ h => h) (Or.inl ⟨by rfl, ?_⟩) (by exact hH4) ?_; rotate_left; (focus (intro x hx; (try dsimp only at hx); go_simp; try (with_reducible rfl))))
          try simp only [Act.put, List.setIfInBounds_toArray, List.set_cons_zero, List.set_cons_succ]
          first
            | (refine wpAnyH_take (i := 22) (oi := ⟨_, _, _, _, _, _⟩) (v := undef) rfl (by kernel_rfl) (by kernel_rfl) (by kernel_rfl) (fun _ _ _ h => h) (Or.inr ⟨by rfl, rfl⟩) (by exact hH4) ?_)
            | (refine wpAnyH_take (i := 22) (oi := ⟨_, _, _, _, _, _⟩) (v := ?_) rfl (by kernel_rfl) (by kernel_rfl) (by kernel_rfl) (fun _ _ _ h => h) (Or.inl ⟨by rfl, ?_⟩) (by exact hH4) ?_; rotate_left; (focus (intro x hx; (try dsimp only at hx); go_simp; try (with_reducible rfl))))
          try simp only [Act.put, List.setIfInBounds_toArray, List.set_cons_zero, List.set_cons_succ]
          first
            | (refine wpAnyH_take (i := 23) (oi := ⟨_, _, _, _, _, _⟩) (v := undef) rfl (by kernel_rfl) (by kernel_rfl) (by kernel_rfl) (fun _ _ _ h => h) (Or.inr ⟨by rfl, rfl⟩) (by exact hH4) ?_)
            | (refine wpAnyH_take (i := 23) (oi := ⟨_, _, _, _, _, _⟩) (v := ?_) rfl (by kernel_rfl) (by kernel_rfl) (by kernel_rfl) (fun _ _ _ h => h) (Or.inl ⟨by rfl, ?_⟩) (by exact hH4) ?_; rotate_left; (focus (intro x hx; (try dsimp only at hx); go_simp; try (with_reducible rfl))))
          try simp only [Act.put, List.setIfInBounds_toArray, List.set_cons_zero, List.set_cons_succ]
          first
            | (refine wpAnyH_take (i := 24) (oi := ⟨_, _, _, _, _, _⟩) (v := undef) rfl (by kernel_rfl) (by kernel_rfl) (by kernel_rfl) (fun _ _ _ h => h) (Or.inr ⟨by rfl, rfl⟩) (by exact hH4) ?_)
            | (refine wpAnyH_take (i := 24) (oi := ⟨_, _, _, _, _, _⟩) (v := ?_) rfl (by kernel_rfl) (by kernel_rfl) (by kernel_rfl) (fun _ _ _ h => h) (Or.inl ⟨by rfl, ?_⟩) (by exact hH4) ?_; rotate_left; (focus (intro x hx; (try dsimp only at hx); go_simp; try (with_reducible rfl))))
          try simp only [Act.put, List.setIfInBounds_toArray, List.set_cons_zero, List.set_cons_succ]
          first
            | (refine wpAnyH_take (i := 25) (oi := ⟨_, _, _, _, _, _⟩) (v := undef) rfl (by kernel_rfl) (by kernel_rfl) (by kernel_rfl) (fun _ _ _ h => h) (Or.inr ⟨by rfl, rfl⟩) (by exact hH4) ?_)
            | (refine wpAnyH_take (i := 25) (oi := ⟨_, _, _, _, _, _⟩) (v := ?_) rfl (by kernel_rfl) (by kernel_rfl) (by kernel_rfl) (fun _ _ _ h => h) (Or.inl ⟨by rfl, ?_⟩) (by exact hH4) ?_; rotate_left; (focus (intro x hx; (try dsimp only at hx); go_simp; try (with_reducible rfl))))
          try simp only [Act.put, List.setIfInBounds_toArray, List.set_cons_zero, List.set_cons_succ]
          first
            | (refine wpAnyH_take (i := 26) (oi := ⟨_, _, _, _, _, _⟩) (v := undef) rfl (by kernel_rfl) (by kernel_rfl) (by kernel_rfl) (fun _ _ _ h => h) (Or.inr ⟨by rfl, rfl⟩) (by exact hH4) ?_)
            | (refine wpAnyH_take (i := 26) (oi := ⟨_, _, _, _, _, _⟩) (v := ?_) rfl (by kernel_rfl) (by kernel_rfl) (by kernel_rfl) (fun _ _ _ h => h) (Or.inl ⟨by rfl, ?_⟩) (by exact hH4) ?_; rotate_left; (focus (intro x hx; (try dsimp only at hx); go_simp; try (with_reducible rfl))))
          try simp only [Act.put, List.setIfInBounds_toArray, List.set_cons_zero, List.set_cons_succ]
          first
            | (refine wpAnyH_take (i := 27) (oi := ⟨_, _, _, _, _, _⟩) (v := undef) rfl (by kernel_rfl) (by kernel_rfl) (by kernel_rfl) (fun _ _ _ h => h) (Or.inr ⟨by rfl, rfl⟩) (by exact hH4) ?_)
            | (refine wpAnyH_take (i := 27) (oi := ⟨_, _, _, _, _, _⟩) (v := ?_) rfl (by kernel_rfl) (by kernel_rfl) (by kernel_rfl) (fun _ _ _ h => h) (Or.inl ⟨by rfl, ?_⟩) (by exact hH4) ?_; rotate_left; (focus (intro x hx; (try dsimp only at hx); go_simp; try (with_reducible rfl))))
          try simp only [Act.put, List.setIfInBounds_toArray, List.set_cons_zero, List.set_cons_succ]
          first
            | (refine wpAnyH_take (i := 28) (oi := ⟨_, _, _, _, _, _⟩) (v := undef) rfl (by kernel_rfl) (by kernel_rfl) (by kernel_rfl) (fun _ _ _ h => h) (Or.inr ⟨by rfl, rfl⟩) (by exact hH4) ?_)
            | (refine wpAnyH_take (i := 28) (oi := ⟨_, _, _, _, _, _⟩) (v := ?_) rfl (by kernel_rfl) (by kernel_rfl) (by kernel_rfl) (fun _ _ _ h => h) (Or.inl ⟨by rfl, ?_⟩) (by exact hH4) ?_; rotate_left; (focus (intro x hx; (try dsimp only at hx); go_simp; try (with_reducible rfl))))
          try simp only [Act.put, List.setIfInBounds_toArray, List.set_cons_zero, List.set_cons_succ]
          first
            | (refine wpAnyH_take (i := 29) (oi := ⟨_, _, _, _, _, _⟩) (v := undef) rfl (by kernel_rfl) (by kernel_rfl) (by kernel_rfl) (fun _ _ _ h => h) (Or.inr ⟨by rfl, rfl⟩) (by exact hH4) ?_)
            | (refine wpAnyH_take (i := 29) (oi := ⟨_, _, _, _, _, _⟩) (v := ?_) rfl (by kernel_rfl) (by kernel_rfl) (by kernel_rfl) (fun _ _ _ h => h) (Or.inl ⟨by rfl, ?_⟩) (by exact hH4) ?_; rotate_left; (focus (intro x hx; (try dsimp only at hx); go_simp; try (with_reducible rfl))))
          try simp only [Act.put, List.setIfInBounds_toArray, List.set_cons_zero, List.set_cons_succ]
          first
            | (refine wpAnyH_take (i := 30) (oi := ⟨_, _, _, _, _, _⟩) (v := undef) rfl (by kernel_rfl) (by kernel_rfl) (by kernel_rfl) (fun _ _ _ h => h) (Or.inr ⟨by rfl, rfl⟩) (by exact hH4) ?_)
            | (refine wpAnyH_take (i := 30) (oi := ⟨_, _, _, _, _, _⟩) (v := ?_) rfl (by kernel_rfl) (by kernel_rfl) (by kernel_rfl) (fun _ _ _ h => h) (Or.inl ⟨by rfl, ?_⟩) (by exact hH4) ?_; rotate_left; (focus (intro x hx; (try dsimp only at hx); go_simp; try (with_reducible rfl))))
          try simp only [Act.put, List.setIfInBounds_toArray, List.set_cons_zero, List.set_cons_succ]
          refine wpAnyH_done (by kernel_rfl) ?_ _
          go_wp2_with fail
          go_meet
          case rel => exact ⟨by rw [HD.out, h1]; rfl, by repeat (first | with_reducible exact BC | with_reducible refine qDrew ?_ | with_reducible refine qAlloc ?_)⟩
        · cases h2 : cntsB jl (cn : Int)
          · refine wp_region_held_drew (S := fun w' => w'.cell? ⟨V.heap.size, 0, none⟩ = some (.int .i64 x) ∧ w'.cell? ⟨V.heap.size, 1, none⟩ = some (.slice ja jn jc) ∧ w'.cell? ⟨V.heap.size, 2, none⟩ = some (.slice fa fn fc) ∧ w'.cell? ⟨V.heap.size, 3, none⟩ = some (.slice aa an ac) ∧ w'.cell? ⟨w.heap.size, 0, none⟩ = some (.slice (some ⟨b5, o5, none⟩) rn pc) ∧ w'.cell? ⟨b5, o5 + q * 3, none⟩ = some (.int .i64 fx)) (by kernel_rfl) ?_ (fun hH0 => ?_)
            · (try dsimp only); (refine SA.out _ ?_; (repeat (first | with_reducible exact BC | with_reducible refine qDrew ?_ | with_reducible refine qAlloc ?_)))
            first
              | (refine wpAnyH_take (i := 0) (oi := ⟨_, _, _, _, _, _⟩) (v := undef) rfl (by kernel_rfl) (by kernel_rfl) (by kernel_rfl) (fun _ _ _ h => h) (Or.inr ⟨by rfl, rfl⟩) (by exact hH0) ?_)
              | (refine wpAnyH_take (i := 0) (oi := ⟨_, _, _, _, _, _⟩) (v := ?_) rfl (by kernel_rfl) (by kernel_rfl) (by kernel_rfl) (fun _ _ _ h => h) (Or.inl ⟨by rfl, ?_⟩) (by exact hH0) ?_; rotate_left; (focus (intro x hx; (try dsimp only at hx); go_simp; try (with_reducible rfl))))
            try simp only [Act.put, List.setIfInBounds_toArray, List.set_cons_zero, List.set_cons_succ]
            first
              | (refine wpAnyH_take (i := 1) (oi := ⟨_, _, _, _, _, _⟩) (v := undef) rfl (by kernel_rfl) (by kernel_rfl) (by kernel_rfl) (fun _ _ _ h => h) (Or.inr ⟨by rfl, rfl⟩) (by exact hH0) ?_)
              | (refine wpAnyH_take (i := 1) (oi := ⟨_, _, _, _, _, _⟩) (v := ?_) rfl (by kernel_rfl) (by kernel_rfl) (by kernel_rfl) (fun _ _ _ h => h) (Or.inl ⟨by rfl, ?_⟩) (by exact hH0) ?_; rotate_left; (focus (intro x hx; (try dsimp only at hx); go_simp; try (with_reducible rfl))))
            try simp only [Act.put, List.setIfInBounds_toArray, List.set_cons_zero, List.set_cons_succ]
            first
              | (refine wpAnyH_take (i := 2) (oi := ⟨_, _, _, _, _, _⟩) (v := undef) rfl (by kernel_rfl) (by kernel_rfl) (by kernel_rfl) (fun _ _ _ h => h) (Or.inr ⟨by rfl, rfl⟩) (by exact hH0) ?_; have hH1 := hH0)
              | (refine wpAnyH_ready (rs := [2]) (by kernel_rfl) (by simp) ?_; refine AllReadyH.cons (o := ⟨_, _, _, _, _, _⟩) rfl (fun K hK => ?_) ?_; rotate_left; (focus exact AllReadyH.nil); go_simp; refine hK.out _ _ ?_ (fun hH1 => ?_); (focus ((try dsimp only); (refine SA.out _ ?_; (repeat (first | with_reducible exact BC | with_reducible refine qDrew ?_ | with_reducible refine qAlloc ?_))))); clear hK K)
            try simp only [Act.put, List.setIfInBounds_toArray, List.set_cons_zero, List.set_cons_succ]
            first
              | (refine wpAnyH_take (i := 3) (oi := ⟨_, _, _, _, _, _⟩) (v := undef) rfl (by kernel_rfl) (by kernel_rfl) (by kernel_rfl) (fun _ _ _ h => h) (Or.inr ⟨by rfl, rfl⟩) (by exact hH1) ?_; have hH2 := hH1)
              | (refine wpAnyH_ready (rs := [3]) (by kernel_rfl) (by simp) ?_; refine AllReadyH.cons (o := ⟨_, _, _, _, _, _⟩) rfl (fun K hK => ?_) ?_; rotate_left; (focus exact AllReadyH.nil); go_simp; go_at_call 34; refine (refCounts_any _ 1 1 [x] 1 _ NL.out).mono ?_; rw [h1]; rintro e y1 ⟨rfl, hw⟩; rw [hw]; clear hw; refine hK.out _ _ ?_ (fun hH2 => ?_); (focus ((try dsimp only); (refine SA.out _ ?_; (repeat (first | with_reducible exact BC | with_reducible refine qDrew ?_ | with_reducible refine qAlloc ?_))))); clear hK K)
            try simp only [Act.put, List.setIfInBounds_toArray, List.set_cons_zero, List.set_cons_succ]
            first
              | (refine wpAnyH_take (i := 4) (oi := ⟨_, _, _, _, _, _⟩) (v := undef) rfl (by kernel_rfl) (by kernel_rfl) (by kernel_rfl) (fun _ _ _ h => h) (Or.inr ⟨by rfl, rfl⟩) (by exact hH2) ?_)
              | (refine wpAnyH_take (i := 4) (oi := ⟨_, _, _, _, _, _⟩) (v := ?_) rfl (by kernel_rfl) (by kernel_rfl) (by kernel_rfl) (fun _ _ _ h => h) (Or.inl ⟨by rfl, ?_⟩) (by exact hH2) ?_; rotate_left; (focus (intro x hx; (try dsimp only at hx); go_simp; try (with_reducible rfl))))
            try simp only [Act.put, List.setIfInBounds_toArray, List.set_cons_zero, List.set_cons_succ]
            first
              | (refine wpAnyH_take (i := 5) (oi := ⟨_, _, _, _, _, _⟩) (v := undef) rfl (by kernel_rfl) (by kernel_rfl) (by kernel_rfl) (fun _ _ _ h => h) (Or.inr ⟨by rfl, rfl⟩) (by exact hH2) ?_)
              | (refine wpAnyH_take (i := 5) (oi := ⟨_, _, _, _, _, _⟩) (v := ?_) rfl (by kernel_rfl) (by kernel_rfl) (by kernel_rfl) (fun _ _ _ h => h) (Or.inl ⟨by rfl, ?_⟩) (by exact hH2) ?_; rotate_left; (focus (intro x hx; (try dsimp only at hx); go_simp; try (with_reducible rfl))))
            try simp only [Act.put, List.setIfInBounds_toArray, List.set_cons_zero, List.set_cons_succ]
            first
              | (refine wpAnyH_take (i := 6) (oi := ⟨_, _, _, _, _, _⟩) (v := undef) rfl (by kernel_rfl) (by kernel_rfl) (by kernel_rfl) (fun _ _ _ h => h) (Or.inr ⟨by rfl, rfl⟩) (by exact hH2) ?_)
              | (refine wpAnyH_take (i := 6) (oi := ⟨_, _, _, _, _, _⟩) (v := ?_) rfl (by kernel_rfl) (by kernel_rfl) (by kernel_rfl) (fun _ _ _ h => h) (Or.inl ⟨by rfl, ?_⟩) (by exact hH2) ?_; rotate_left; (focus (intro x hx; (try dsimp only at hx); go_simp; try (with_reducible rfl))))
            try simp only [Act.put, List.setIfInBounds_toArray, List.set_cons_zero, List.set_cons_succ]
            first
              | (refine wpAnyH_take (i := 7) (oi := ⟨_, _, _, _, _, _⟩) (v := undef) rfl (by kernel_rfl) (by kernel_rfl) (by kernel_rfl) (fun _ _ _ h => h) (Or.inr ⟨by rfl, rfl⟩) (by exact hH2) ?_)
              | (refine wpAnyH_take (i := 7) (oi := ⟨_, _, _, _, _, _⟩) (v := ?_) rfl (by kernel_rfl) (by kernel_rfl) (by kernel_rfl) (fun _ _ _ h => h) (Or.inl ⟨by rfl, ?_⟩) (by exact hH2) ?_; rotate_left; (focus (intro x hx; (try dsimp only at hx); go_simp; try (with_reducible rfl))))
            try simp only [Act.put, List.setIfInBounds_toArray, List.set_cons_zero, List.set_cons_succ]
            first
              | (refine wpAnyH_take (i := 8) (oi := ⟨_, _, _, _, _, _⟩) (v := undef) rfl (by kernel_rfl) (by kernel_rfl) (by kernel_rfl) (fun _ _ _ h => h) (Or.inr ⟨by rfl, rfl⟩) (by exact hH2) ?_)
              | (refine wpAnyH_take (i := 8) (oi := ⟨_, _, _, _, _, _⟩) (v := ?_) rfl (by kernel_rfl) (by kernel_rfl) (by kernel_rfl) (fun _ _ _ h => h) (Or.inl ⟨by rfl, ?_⟩) (by exact hH2) ?_; rotate_left; (focus (intro x hx; (try dsimp only at hx); go_simp; try (with_reducible rfl))))
            try simp only [Act.put, List.setIfInBounds_toArray, List.set_cons_zero, List.set_cons_succ]
            first
              | (refine wpAnyH_take (i := 9) (oi := ⟨_, _, _, _, _, _⟩) (v := undef) rfl (by kernel_rfl) (by kernel_rfl) (by kernel_rfl) (fun _ _ _ h => h) (Or.inr ⟨by rfl, rfl⟩) (by exact hH2) ?_; have hH3 := hH2)
              | (refine wpAnyH_ready (rs := [9]) (by kernel_rfl) (by simp) ?_; refine AllReadyH.cons (o := ⟨_, _, _, _, _, _⟩) rfl (fun K hK => ?_) ?_; rotate_left; (focus exact AllReadyH.nil); go_simp; go_at_call 34; refine (refCounts_any ja jn jc jl _ _ (Ints.kept ?hk J1.out)).mono ?_; (case hk => (repeat (first | with_reducible exact BC | with_reducible refine qDrew ?_ | with_reducible refine qAlloc ?_))); rw [h2]; rintro e y1 ⟨rfl, hw⟩; rw [hw]; clear hw; refine hK.out _ _ ?_ (fun hH3 => ?_); (focus ((try dsimp only); (refine SA.out _ ?_; (repeat (first | with_reducible exact BC | with_reducible refine qDrew ?_ | with_reducible refine qAlloc ?_))))); clear hK K)
            try simp only [Act.put, List.setIfInBounds_toArray, List.set_cons_zero, List.set_cons_succ]
            first
              | (refine wpAnyH_take (i := 10) (oi := ⟨_, _, _, _, _, _⟩) (v := undef) rfl (by kernel_rfl) (by kernel_rfl) (by kernel_rfl) (fun _ _ _ h => h) (Or.inr ⟨by rfl, rfl⟩) (by exact hH3) ?_)
              | (refine wpAnyH_take (i := 10) (oi := ⟨_, _, _, _, _, _⟩) (v := ?_) rfl (by kernel_rfl) (by kernel_rfl) (by kernel_rfl) (fun _ _ _ h => h) (Or.inl ⟨by rfl, ?_⟩) (by exact hH3) ?_; rotate_left; (focus (intro x hx; (try dsimp only at hx); go_simp; try (with_reducible rfl))))
            try simp only [Act.put, List.setIfInBounds_toArray, List.set_cons_zero, List.set_cons_succ]
            first
              | (refine wpAnyH_take (i := 11) (oi := ⟨_, _, _, _, _, _⟩) (v := undef) rfl (by kernel_rfl) (by kernel_rfl) (by kernel_rfl) (fun _ _ _ h => h) (Or.inr ⟨by rfl, rfl⟩) (by exact hH3) ?_)
              | (refine wpAnyH_take (i := 11) (oi := ⟨_, _, _, _, _, _⟩) (v := ?_) rfl (by kernel_rfl) (by kernel_rfl) (by kernel_rfl) (fun _ _ _ h => h) (Or.inl ⟨by rfl, ?_⟩) (by exact hH3) ?_; rotate_left; (focus (intro x hx; (try dsimp only at hx); go_simp; try (with_reducible rfl))))
            try simp only [Act.put, List.setIfInBounds_toArray, List.set_cons_zero, List.set_cons_succ]
            first
              | (refine wpAnyH_take (i := 12) (oi := ⟨_, _, _, _, _, _⟩) (v := undef) rfl (by kernel_rfl) (by kernel_rfl) (by kernel_rfl) (fun _ _ _ h => h) (Or.inr ⟨by rfl, rfl⟩) (by exact hH3) ?_)
              | (refine wpAnyH_take (i := 12) (oi := ⟨_, _, _, _, _, _⟩) (v := ?_) rfl (by kernel_rfl) (by kernel_rfl) (by kernel_rfl) (fun _ _ _ h => h) (Or.inl ⟨by rfl, ?_⟩) (by exact hH3) ?_; rotate_left; (focus (intro x hx; (try dsimp only at hx); go_simp; try (with_reducible rfl))))
            try simp only [Act.put, List.setIfInBounds_toArray, List.set_cons_zero, List.set_cons_succ]
            first
              | (refine wpAnyH_take (i := 13) (oi := ⟨_, _, _, _, _, _⟩) (v := undef) rfl (by kernel_rfl) (by kernel_rfl) (by kernel_rfl) (fun _ _ _ h => h) (Or.inr ⟨by rfl, rfl⟩) (by exact hH3) ?_)
              | (refine wpAnyH_take (i := 13) (oi := ⟨_, _, _, _, _, _⟩) (v := ?_) rfl (by kernel_rfl) (by kernel_rfl) (by kernel_rfl) (fun _ _ _ h => h) (Or.inl ⟨by rfl, ?_⟩) (by exact hH3) ?_; rotate_left; (focus (intro x hx; (try dsimp only at hx); go_simp; try (with_reducible rfl))))
            try simp only [Act.put, List.setIfInBounds_toArray, List.set_cons_zero, List.set_cons_succ]
            first
              | (refine wpAnyH_take (i := 14) (oi := ⟨_, _, _, _, _, _⟩) (v := undef) rfl (by kernel_rfl) (by kernel_rfl) (by kernel_rfl) (fun _ _ _ h => h) (Or.inr ⟨by rfl, rfl⟩) (by exact hH3) ?_)
              | (refine wpAnyH_take (i := 14) (oi := ⟨_, _, _, _, _, _⟩) (v := ?_) rfl (by kernel_rfl) (by kernel_rfl) (by kernel_rfl) (fun _ _ _ h => h) (Or.inl ⟨by rfl, ?_⟩) (by exact hH3) ?_; rotate_left; (focus (intro x hx; (try dsimp only at hx); go_simp; try (with_reducible rfl))))
            try simp only [Act.put, List.setIfInBounds_toArray, List.set_cons_zero, List.set_cons_succ]
            first
              | (refine wpAnyH_take (i := 15) (oi := ⟨_, _, _, _, _, _⟩) (v := undef) rfl (by kernel_rfl) (by kernel_rfl) (by kernel_rfl) (fun _ _ _ h => h) (Or.inr ⟨by rfl, rfl⟩) (by exact hH3) ?_)
              | (refine wpAnyH_take (i := 15) (oi := ⟨_, _, _, _, _, _⟩) (v := ?_) rfl (by kernel_rfl) (by kernel_rfl) (by kernel_rfl) (fun _ _ _ h => h) (Or.inl ⟨by rfl, ?_⟩) (by exact hH3) ?_; rotate_left; (focus (intro x hx; (try dsimp only at hx); go_simp; try (with_reducible rfl))))
            try simp only [Act.put, List.setIfInBounds_toArray, List.set_cons_zero, List.set_cons_succ]
            first
              | (refine wpAnyH_take (i := 16) (oi := ⟨_, _, _, _, _, _⟩) (v := undef) rfl (by kernel_rfl) (by kernel_rfl) (by kernel_rfl) (fun _ _ _ h => h) (Or.inr ⟨by rfl, rfl⟩) (by exact hH3) ?_; have hH4 := hH3)
              | (refine wpAnyH_ready (rs := [16]) (by kernel_rfl) (by simp) ?_; refine AllReadyH.cons (o := ⟨_, _, _, _, _, _⟩) rfl (fun K hK => ?_) ?_; rotate_left; (focus exact AllReadyH.nil); go_simp; go_at_call 34; refine (refCounts_any fa fn fc fl _ _ (Ints.kept ?hk J2.out)).mono ?_; (case hk => (repeat (first | with_reducible exact BC | with_reducible refine qDrew ?_ | with_reducible refine qAlloc ?_))); rintro e y1 ⟨rfl, hw⟩; rw [hw]; clear hw; refine hK.out _ _ ?_ (fun hH4 => ?_); (focus ((try dsimp only); (refine SA.out _ ?_; (repeat (first | with_reducible exact BC | with_reducible refine qDrew ?_ | with_reducible refine qAlloc ?_))))); clear hK K)
            try simp only [Act.put, List.setIfInBounds_toArray, List.set_cons_zero, List.set_cons_succ]
            first
              | (refine wpAnyH_take (i := 17) (oi := ⟨_, _, _, _, _, _⟩) (v := undef) rfl (by kernel_rfl) (by kernel_rfl) (by kernel_rfl) (fun _ _ _ h => h) (Or.inr ⟨by rfl, rfl⟩) (by exact hH4) ?_)
              | (refine wpAnyH_take (i := 17) (oi := ⟨_, _, _, _, _, _⟩) (v := ?_) rfl (by kernel_rfl) (by kernel_rfl) (by kernel_rfl) (fun _ _ _ h => h) (Or.inl ⟨by rfl, ?_⟩) (by exact hH4) ?_; rotate_left; (focus (intro x hx; (try dsimp only at hx); go_simp; try (with_reducible rfl))))
            try simp only [Act.put, List.setIfInBounds_toArray, List.set_cons_zero, List.set_cons_succ]
            first
              | (refine wpAnyH_take (i := 18) (oi := ⟨_, _, _, _, _, _⟩) (v := undef) rfl (by kernel_rfl) (by kernel_rfl) (by kernel_rfl) (fun _ _ _ h => h) (Or.inr ⟨by rfl, rfl⟩) (by exact hH4) ?_)
              | (refine wpAnyH_take (i := 18) (oi := ⟨_, _, _, _, _, _⟩) (v := ?_) rfl (by kernel_rfl) (by kernel_rfl) (by kernel_rfl) (fun _ _ _ h => h) (Or.inl ⟨by rfl, ?_⟩) (by exact hH4) ?_; rotate_left; (focus (intro x hx; (try dsimp only at hx); go_simp; try (with_reducible rfl))))
            try simp only [Act.put, List.setIfInBounds_toArray, List.set_cons_zero, List.set_cons_succ]
            first
              | (refine wpAnyH_take (i := 19) (oi := ⟨_, _, _, _, _, _⟩) (v := undef) rfl (by kernel_rfl) (by kernel_rfl) (by kernel_rfl) (fun _ _ _ h => h) (Or.inr ⟨by rfl, rfl⟩) (by exact hH4) ?_)
              | (refine wpAnyH_take (i := 19) (oi := ⟨_, _, _, _, _, _⟩) (v := ?_) rfl (by kernel_rfl) (by kernel_rfl) (by kernel_rfl) (fun _ _ _ h => h) (Or.inl ⟨by rfl, ?_⟩) (by exact hH4) ?_; rotate_left; (focus (intro x hx; (try dsimp only at hx); go_simp; try (with_reducible rfl))))
            try simp only [Act.put, List.setIfInBounds_toArray, List.set_cons_zero, List.set_cons_succ]
            first
              | (refine wpAnyH_take (i := 20) (oi := ⟨_, _, _, _, _, _⟩) (v := undef) rfl (by kernel_rfl) (by kernel_rfl) (by kernel_rfl) (fun _ _ _ h => h) (Or.inr ⟨by rfl, rfl⟩) (by exact hH4) ?_)
              | (refine wpAnyH_take (i := 20) (oi := ⟨_, _, _, _, _, _⟩) (v := ?_) rfl (by kernel_rfl) (by kernel_rfl) (by kernel_rfl) (fun _ _ _ h => h) (Or.inl ⟨by rfl, ?_⟩) (by exact hH4) ?_; rotate_left; (focus (intro x hx; (try dsimp only at hx); go_simp; try (with_reducible rfl))))
            try simp only [Act.put, List.setIfInBounds_toArray, List.set_cons_zero, List.set_cons_succ]
            first
              | (refine wpAnyH_take (i := 21) (oi := ⟨_, _, _, _, _, _⟩) (v := undef) rfl (by kernel_rfl) (by kernel_rfl) (by kernel_rfl) (fun _ _ _ h => h) (Or.inr ⟨by rfl, rfl⟩) (by exact hH4) ?_)
              | (refine wpAnyH_take (i := 21) (oi := ⟨_, _, _, _, _, _⟩) (v := ?_) rfl (by kernel_rfl) (by kernel_rfl) (by kernel_rfl) (fun _ _ _ h => h) (Or.inl ⟨by rfl, ?_⟩) (by exact hH4) ?_; rotate_left; (focus (intro x hx; (try dsimp only at hx); go_simp; try (with_reducible rfl))))
            try simp only [Act.put, List.setIfInBounds_toArray, List.set_cons_zero, List.set_cons_succ]
            first
              | (refine wpAnyH_take (i := 22) (oi := ⟨_, _, _, _, _, _⟩) (v := undef) rfl (by kernel_rfl) (by kernel_rfl) (by kernel_rfl) (fun _ _ _ h => h) (Or.inr ⟨by rfl, rfl⟩) (by exact hH4) ?_)
              | (refine wpAnyH_take (i := 22) (oi := ⟨_, _, _, _, _, _⟩) (v := ?_) rfl (by kernel_rfl) (by kernel_rfl) (by kernel_rfl) (fun _ _ _ h => h) (Or.inl ⟨by rfl, ?_⟩) (by exact hH4) ?_; rotate_left; (focus (intro x hx; (try dsimp only at hx); go_simp; try (with_reducible rfl))))
            try simp only [Act.put, List.setIfInBounds_toArray, List.set_cons_zero, List.set_cons_succ]
            first
              | (refine wpAnyH_take (i := 23) (oi := ⟨_, _, _, _, _, _⟩) (v := undef) rfl (by kernel_rfl) (by kernel_rfl) (by kernel_rfl) (fun _ _ _ h => h) (Or.inr ⟨by rfl, rfl⟩) (by exact hH4) ?_)
              | (refine wpAnyH_take (i := 23) (oi := ⟨_, _, _, _, _, _⟩) (v := ?_) rfl (by kernel_rfl) (by kernel_rfl) (by kernel_rfl) (fun _ _ _ h => h) (Or.inl ⟨by rfl, ?_⟩) (by exact hH4) ?_; rotate_left; (focus (intro x hx; (try dsimp only at hx); go_simp; try (with_reducible rfl))))
            try simp only [Act.put, List.setIfInBounds_toArray, List.set_cons_zero, List.set_cons_succ]
            first
              | (refine wpAnyH_take (i := 24) (oi := ⟨_, _, _, _, _, _⟩) (v := undef) rfl (by kernel_rfl) (by kernel_rfl) (by kernel_rfl) (fun _ _ _ h => h) (Or.inr ⟨by rfl, rfl⟩) (by exact hH4) ?_)
              | (refine wpAnyH_take (i := 24) (oi := ⟨_, _, _, _, _, _⟩) (v := ?_) rfl (by kernel_rfl) (by kernel_rfl) (by kernel_rfl) (fun _ _ _ h => h) (Or.inl ⟨by rfl, ?_⟩) (by exact hH4) ?_; rotate_left; (focus (intro x hx; (try dsimp only at hx); go_simp; try (with_reducible rfl))))
            try simp only [Act.put, List.setIfInBounds_toArray, List.set_cons_zero, List.set_cons_succ]
            first
              | (refine wpAnyH_take (i := 25) (oi := ⟨_, _, _, _, _, _⟩) (v := undef) rfl (by kernel_rfl) (by kernel_rfl) (by kernel_rfl) (fun _ _ _ h => h) (Or.inr ⟨by rfl, rfl⟩) (by exact hH4) ?_)
              | (refine wpAnyH_take (i := 25) (oi := ⟨_, _, _, _, _, _⟩) (v := ?_) rfl (by kernel_rfl) (by kernel_rfl) (by kernel_rfl) (fun _ _ _ h => h) (Or.inl ⟨by rfl, ?_⟩) (by exact hH4) ?_; rotate_left; (focus (intro x hx; (try dsimp only at hx); go_simp; try (with_reducible rfl))))
            try simp only [Act.put, List.setIfInBounds_toArray, List.set_cons_zero, List.set_cons_succ]
            first
              | (refine wpAnyH_take (i := 26) (oi := ⟨_, _, _, _, _, _⟩) (v := undef) rfl (by kernel_rfl) (by kernel_rfl) (by kernel_rfl) (fun _ _ _ h => h) (Or.inr ⟨by rfl, rfl⟩) (by exact hH4) ?_)
              | (refine wpAnyH_take (i := 26) (oi := ⟨_, _, _, _, _, _⟩) (v := ?_) rfl (by kernel_rfl) (by kernel_rfl) (by kernel_rfl) (fun _ _ _ h => h) (Or.inl ⟨by rfl, ?_⟩) (by exact hH4) ?_; rotate_left; (focus (intro x hx; (try dsimp only at hx); go_simp; try (with_reducible rfl))))
            try simp only [Act.put, List.setIfInBounds_toArray, List.set_cons_zero, List.set_cons_succ]
            first
              | (refine wpAnyH_take (i := 27) (oi := ⟨_, _, _, _, _, _⟩) (v := undef) rfl (by kernel_rfl) (by kernel_rfl) (by kernel_rfl) (fun _ _ _ h => h) (Or.inr ⟨by rfl, rfl⟩) (by exact hH4) ?_)
              | (refine wpAnyH_take (i := 27) (oi := ⟨_, _, _, _, _, _⟩) (v := ?_) rfl (by kernel_rfl) (by kernel_rfl) (by kernel_rfl) (fun _ _ _ h => h) (Or.inl ⟨by rfl, ?_⟩) (by exact hH4) ?_; rotate_left; (focus (intro x hx; (try dsimp only at hx); go_simp; try (with_reducible rfl))))
            try simp only [Act.put, List.setIfInBounds_toArray, List.set_cons_zero, List.set_cons_succ]
            first
              | (refine wpAnyH_take (i := 28) (oi := ⟨_, _, _, _, _, _⟩) (v := undef) rfl (by kernel_rfl) (by kernel_rfl) (by kernel_rfl) (fun _ _ _ h => h) (Or.inr ⟨by rfl, rfl⟩) (by exact hH4) ?_)
              | (refine wpAnyH_take (i := 28) (oi := ⟨_, _, _, _, _, _⟩) (v := ?_) rfl (by kernel_rfl) (by kernel_rfl) (by kernel_rfl) (fun _ _ _ h => h) (Or.inl ⟨by rfl, ?_⟩) (by exact hH4) ?_; rotate_left; (focus (intro x hx; (try dsimp only at hx); go_simp; try (with_reducible rfl))))
            try simp only [Act.put, List.setIfInBounds_toArray, List.set_cons_zero, List.set_cons_succ]
            first
              | (refine wpAnyH_take (i := 29) (oi := ⟨_, _, _, _, _, _⟩) (v := undef) rfl (by kernel_rfl) (by kernel_rfl) (by kernel_rfl) (fun _ _ _ h => h) (Or.inr ⟨by rfl, rfl⟩) (by exact hH4) ?_)
              | (refine wpAnyH_take (i := 29) (oi := ⟨_, _, _, _, _, _⟩) (v := ?_) rfl (by kernel_rfl) (by kernel_rfl) (by kernel_rfl) (fun _ _ _ h => h) (Or.inl ⟨by rfl, ?_⟩) (by exact hH4) ?_; rotate_left; (focus (intro x hx; (try dsimp only at hx); go_simp; try (with_reducible rfl))))
            try simp only [Act.put, List.setIfInBounds_toArray, List.set_cons_zero, List.set_cons_succ]
            first
              | (refine wpAnyH_take (i := 30) (oi := ⟨_, _, _, _, _, _⟩) (v := undef) rfl (by kernel_rfl) (by kernel_rfl) (by kernel_rfl) (fun _ _ _ h => h) (Or.inr ⟨by rfl, rfl⟩) (by exact hH4) ?_)
              | (refine wpAnyH_take (i := 30) (oi := ⟨_, _, _, _, _, _⟩) (v := ?_) rfl (by kernel_rfl) (by kernel_rfl) (by kernel_rfl) (fun _ _ _ h => h) (Or.inl ⟨by rfl, ?_⟩) (by exact hH4) ?_; rotate_left; (focus (intro x hx; (try dsimp only at hx); go_simp; try (with_reducible rfl))))
            try simp only [Act.put, List.setIfInBounds_toArray, List.set_cons_zero, List.set_cons_succ]
            refine wpAnyH_done (by kernel_rfl) ?_ _
            go_wp2_with fail
            go_meet
            case rel => exact ⟨by rw [HD.out, h1, h2]; rfl, by repeat (first | with_reducible exact BC | with_reducible refine qDrew ?_ | with_reducible refine qAlloc ?_)⟩
          · cases h3 : cntsB fl (cn : Int)
            · refine wp_region_held_drew (S := fun w' => w'.cell? ⟨V.heap.size, 0, none⟩ = some (.int .i64 x) ∧ w'.cell? ⟨V.heap.size, 1, none⟩ = some (.slice ja jn jc) ∧ w'.cell? ⟨V.heap.size, 2, none⟩ = some (.slice fa fn fc) ∧ w'.cell? ⟨V.heap.size, 3, none⟩ = some (.slice aa an ac) ∧ w'.cell? ⟨w.heap.size, 0, none⟩ = some (.slice (some ⟨b5, o5, none⟩) rn pc) ∧ w'.cell? ⟨b5, o5 + q * 3, none⟩ = some (.int .i64 fx)) (by kernel_rfl) ?_ (fun hH0 => ?_)
              · (try dsimp only); (refine SA.out _ ?_; (repeat (first | with_reducible exact BC | with_reducible refine qDrew ?_ | with_reducible refine qAlloc ?_)))
              first
                | (refine wpAnyH_take (i := 0) (oi := ⟨_, _, _, _, _, _⟩) (v := undef) rfl (by kernel_rfl) (by kernel_rfl) (by kernel_rfl) (fun _ _ _ h => h) (Or.inr ⟨by rfl, rfl⟩) (by exact hH0) ?_)
                | (refine wpAnyH_take (i := 0) (oi := ⟨_, _, _, _, _, _⟩) (v := ?_) rfl (by kernel_rfl) (by kernel_rfl) (by kernel_rfl) (fun _ _ _ h => h) (Or.inl ⟨by rfl, ?_⟩) (by exact hH0) ?_; rotate_left; (focus (intro x hx; (try dsimp only at hx); go_simp; try (with_reducible rfl))))
              try simp only [Act.put, List.setIfInBounds_toArray, List.set_cons_zero, List.set_cons_succ]
              first
                | (refine wpAnyH_take (i := 1) (oi := ⟨_, _, _, _, _, _⟩) (v := undef) rfl (by kernel_rfl) (by kernel_rfl) (by kernel_rfl) (fun _ _ _ h => h) (Or.inr ⟨by rfl, rfl⟩) (by exact hH0) ?_)
                | (refine wpAnyH_take (i := 1) (oi := ⟨_, _, _, _, _, _⟩) (v := ?_) rfl (by kernel_rfl) (by kernel_rfl) (by kernel_rfl) (fun _ _ _ h => h) (Or.inl ⟨by rfl, ?_⟩) (by exact hH0) ?_; rotate_left; (focus (intro x hx; (try dsimp only at hx); go_simp; try (with_reducible rfl))))
              try simp only [Act.put, List.setIfInBounds_toArray, List.set_cons_zero, List.set_cons_succ]
              first
                | (refine wpAnyH_take (i := 2) (oi := ⟨_, _, _, _, _, _⟩) (v := undef) rfl (by kernel_rfl) (by kernel_rfl) (by kernel_rfl) (fun _ _ _ h => h) (Or.inr ⟨by rfl, rfl⟩) (by exact hH0) ?_; have hH1 := hH0)
                | (refine wpAnyH_ready (rs := [2]) (by kernel_rfl) (by simp) ?_; refine AllReadyH.cons (o := ⟨_, _, _, _, _, _⟩) rfl (fun K hK => ?_) ?_; rotate_left; (focus exact AllReadyH.nil); go_simp; refine hK.out _ _ ?_ (fun hH1 => ?_); (focus ((try dsimp only); (refine SA.out _ ?_; (repeat (first | with_reducible exact BC | with_reducible refine qDrew ?_ | with_reducible refine qAlloc ?_))))); clear hK K)
              try simp only [Act.put, List.setIfInBounds_toArray, List.set_cons_zero, List.set_cons_succ]
              first
                | (refine wpAnyH_take (i := 3) (oi := ⟨_, _, _, _, _, _⟩) (v := undef) rfl (by kernel_rfl) (by kernel_rfl) (by kernel_rfl) (fun _ _ _ h => h) (Or.inr ⟨by rfl, rfl⟩) (by exact hH1) ?_; have hH2 := hH1)
                | (refine wpAnyH_ready (rs := [3]) (by kernel_rfl) (by simp) ?_; refine AllReadyH.cons (o := ⟨_, _, _, _, _, _⟩) rfl (fun K hK => ?_) ?_; rotate_left; (focus exact AllReadyH.nil); go_simp; go_at_call 34; refine (refCounts_any _ 1 1 [x] 1 _ NL.out).mono ?_; rw [h1]; rintro e y1 ⟨rfl, hw⟩; rw [hw]; clear hw; refine hK.out _ _ ?_ (fun hH2 => ?_); (focus ((try dsimp only); (refine SA.out _ ?_; (repeat (first | with_reducible exact BC | with_reducible refine qDrew ?_ | with_reducible refine qAlloc ?_))))); clear hK K)
              try simp only [Act.put, List.setIfInBounds_toArray, List.set_cons_zero, List.set_cons_succ]
              first
                | (refine wpAnyH_take (i := 4) (oi := ⟨_, _, _, _, _, _⟩) (v := undef) rfl (by kernel_rfl) (by kernel_rfl) (by kernel_rfl) (fun _ _ _ h => h) (Or.inr ⟨by rfl, rfl⟩) (by exact hH2) ?_)
                | (refine wpAnyH_take (i := 4) (oi := ⟨_, _, _, _, _, _⟩) (v := ?_) rfl (by kernel_rfl) (by kernel_rfl) (by kernel_rfl) (fun _ _ _ h => h) (Or.inl ⟨by rfl, ?_⟩) (by exact hH2) ?_; rotate_left; (focus (intro x hx; (try dsimp only at hx); go_simp; try (with_reducible rfl))))
              try simp only [Act.put, List.setIfInBounds_toArray, List.set_cons_zero, List.set_cons_succ]
              first
                | (refine wpAnyH_take (i := 5) (oi := ⟨_, _, _, _, _, _⟩) (v := undef) rfl (by kernel_rfl) (by kernel_rfl) (by kernel_rfl) (fun _ _ _ h => h) (Or.inr ⟨by rfl, rfl⟩) (by exact hH2) ?_)
                | (refine wpAnyH_take (i := 5) (oi := ⟨_, _, _, _, _, _⟩) (v := ?_) rfl (by kernel_rfl) (by kernel_rfl) (by kernel_rfl) (fun _ _ _ h => h) (Or.inl ⟨by rfl, ?_⟩) (by exact hH2) ?_; rotate_left; (focus (intro x hx; (try dsimp only at hx); go_simp; try (with_reducible rfl))))
              try simp only [Act.put, List.setIfInBounds_toArray, List.set_cons_zero, List.set_cons_succ]
              first
                | (refine wpAnyH_take (i := 6) (oi := ⟨_, _, _, _, _, _⟩) (v := undef) rfl (by kernel_rfl) (by kernel_rfl) (by kernel_rfl) (fun _ _ _ h => h) (Or.inr ⟨by rfl, rfl⟩) (by exact hH2) ?_)
                | (refine wpAnyH_take (i := 6) (oi := ⟨_, _, _, _, _, _⟩) (v := ?_) rfl (by kernel_rfl) (by kernel_rfl) (by kernel_rfl) (fun _ _ _ h => h) (Or.inl ⟨by rfl, ?_⟩) (by exact hH2) ?_; rotate_left; (focus (intro x hx; (try dsimp only at hx); go_simp; try (with_reducible rfl))))
              try simp only [Act.put, List.setIfInBounds_toArray, List.set_cons_zero, List.set_cons_succ]
              first
                | (refine wpAnyH_take (i := 7) (oi := ⟨_, _, _, _, _, _⟩) (v := undef) rfl (by kernel_rfl) (by kernel_rfl) (by kernel_rfl) (fun _ _ _ h => h) (Or.inr ⟨by rfl, rfl⟩) (by exact hH2) ?_)
                | (refine wpAnyH_take (i := 7) (oi := ⟨_, _, _, _, _, _⟩) (v := ?_) rfl (by kernel_rfl) (by kernel_rfl) (by kernel_rfl) (fun _ _ _ h => h) (Or.inl ⟨by rfl, ?_⟩) (by exact hH2) ?_; rotate_left; (focus (intro x hx; (try dsimp only at hx); go_simp; try (with_reducible rfl))))
              try simp only [Act.put, List.setIfInBounds_toArray, List.set_cons_zero, List.set_cons_succ]
              first
                | (refine wpAnyH_take (i := 8) (oi := ⟨_, _, _, _, _, _⟩) (v := undef) rfl (by kernel_rfl) (by kernel_rfl) (by kernel_rfl) (fun _ _ _ h => h) (Or.inr ⟨by rfl, rfl⟩) (by exact hH2) ?_)
                | (refine wpAnyH_take (i := 8) (oi := ⟨_, _, _, _, _, _⟩) (v := ?_) rfl (by kernel_rfl) (by kernel_rfl) (by kernel_rfl) (fun _ _ _ h => h) (Or.inl ⟨by rfl, ?_⟩) (by exact hH2) ?_; rotate_left; (focus (intro x hx; (try dsimp only at hx); go_simp; try (with_reducible rfl))))
              try simp only [Act.put, List.setIfInBounds_toArray, List.set_cons_zero, List.set_cons_succ]
              first
                | (refine wpAnyH_take (i := 9) (oi := ⟨_, _, _, _, _, _⟩) (v := undef) rfl (by kernel_rfl) (by kernel_rfl) (by kernel_rfl) (fun _ _ _ h => h) (Or.inr ⟨by rfl, rfl⟩) (by exact hH2) ?_; have hH3 := hH2)
                | (refine wpAnyH_ready (rs := [9]) (by kernel_rfl) (by simp) ?_; refine AllReadyH.cons (o := ⟨_, _, _, _, _, _⟩) rfl (fun K hK => ?_) ?_; rotate_left; (focus exact AllReadyH.nil); go_simp; go_at_call 34; refine (refCounts_any ja jn jc jl _ _ (Ints.kept ?hk J1.out)).mono ?_; (case hk => (repeat (first | with_reducible exact BC | with_reducible refine qDrew ?_ | with_reducible refine qAlloc ?_))); rw [h2]; rintro e y1 ⟨rfl, hw⟩; rw [hw]; clear hw; refine hK.out _ _ ?_ (fun hH3 => ?_); (focus ((try dsimp only); (refine SA.out _ ?_; (repeat (first | with_reducible exact BC | with_reducible refine qDrew ?_ | with_reducible refine qAlloc ?_))))); clear hK K)
              try simp only [Act.put, List.setIfInBounds_toArray, List.set_cons_zero, List.set_cons_succ]
              first
                | (refine wpAnyH_take (i := 10) (oi := ⟨_, _, _, _, _, _⟩) (v := undef) rfl (by kernel_rfl) (by kernel_rfl) (by kernel_rfl) (fun _ _ _ h => h) (Or.inr ⟨by rfl, rfl⟩) (by exact hH3) ?_)
                | (refine wpAnyH_take (i := 10) (oi := ⟨_, _, _, _, _, _⟩) (v := ?_) rfl (by kernel_rfl) (by kernel_rfl) (by kernel_rfl) (fun _ _ _ h => h) (Or.inl ⟨by rfl, ?_⟩) (by exact hH3) ?_; rotate_left; (focus (intro x hx; (try dsimp only at hx); go_simp; try (with_reducible rfl))))
              try simp only [Act.put, List.setIfInBounds_toArray, List.set_cons_zero, List.set_cons_succ]
              first
                | (refine wpAnyH_take (i := 11) (oi := ⟨_, _, _, _, _, _⟩) (v := undef) rfl (by kernel_rfl) (by kernel_rfl) (by kernel_rfl) (fun _ _ _ h => h) (Or.inr ⟨by rfl, rfl⟩) (by exact hH3) ?_)
                | (refine wpAnyH_take (i := 11) (oi := ⟨_, _, _, _, _, _⟩) (v := ?_) rfl (by kernel_rfl) (by kernel_rfl) (by kernel_rfl) (fun _ _ _ h => h) (Or.inl ⟨by rfl, ?_⟩) (by exact hH3) ?_; rotate_left; (focus (intro x hx; (try dsimp only at hx); go_simp; try (with_reducible rfl))))
              try simp only [Act.put, List.setIfInBounds_toArray, List.set_cons_zero, List.set_cons_succ]
              first
                | (refine wpAnyH_take (i := 12) (oi := ⟨_, _, _, _, _, _⟩) (v := undef) rfl (by kernel_rfl) (by kernel_rfl) (by kernel_rfl) (fun _ _ _ h => h) (Or.inr ⟨by rfl, rfl⟩) (by exact hH3) ?_)
                | (refine wpAnyH_take (i := 12) (oi := ⟨_, _, _, _, _, _⟩) (v := ?_) rfl (by kernel_rfl) (by kernel_rfl) (by kernel_rfl) (fun _ _ _ h => h) (Or.inl ⟨by rfl, ?_⟩) (by exact hH3) ?_; rotate_left; (focus (intro x hx; (try dsimp only at hx); go_simp; try (with_reducible rfl))))
              try simp only [Act.put, List.setIfInBounds_toArray, List.set_cons_zero, List.set_cons_succ]
              first
                | (refine wpAnyH_take (i := 13) (oi := ⟨_, _, _, _, _, _⟩) (v := undef) rfl (by kernel_rfl) (by kernel_rfl) (by kernel_rfl) (fun _ _ _ h => h) (Or.inr ⟨by rfl, rfl⟩) (by exact hH3) ?_)
                | (refine wpAnyH_take (i := 13) (oi := ⟨_, _, _, _, _, _⟩) (v := ?_) rfl (by kernel_rfl) (by kernel_rfl) (by kernel_rfl) (fun _ _ _ h => h) (Or.inl ⟨by rfl, ?_⟩) (by exact hH3) ?_; rotate_left; (focus (intro x hx; (try dsimp only at hx); go_simp; try (with_reducible rfl))))
              try simp only [Act.put, List.setIfInBounds_toArray, List.set_cons_zero, List.set_cons_succ]
              first
                | (refine wpAnyH_take (i := 14) (oi := ⟨_, _, _, _, _, _⟩) (v := undef) rfl (by kernel_rfl) (by kernel_rfl) (by kernel_rfl) (fun _ _ _ h => h) (Or.inr ⟨by rfl, rfl⟩) (by exact hH3) ?_)
                | (refine wpAnyH_take (i := 14) (oi := ⟨_, _, _, _, _, _⟩) (v := ?_) rfl (by kernel_rfl) (by kernel_rfl) (by kernel_rfl) (fun _ _ _ h => h) (Or.inl ⟨by rfl, ?_⟩) (by exact hH3) ?_; rotate_left; (focus (intro x hx; (try dsimp only at hx); go_simp; try (with_reducible rfl))))
              try simp only [Act.put, List.setIfInBounds_toArray, List.set_cons_zero, List.set_cons_succ]
              first
                | (refine wpAnyH_take (i := 15) (oi := ⟨_, _, _, _, _, _⟩) (v := undef) rfl (by kernel_rfl) (by kernel_rfl) (by kernel_rfl) (fun _ _ _ h => h) (Or.inr ⟨by rfl, rfl⟩) (by exact hH3) ?_)
                | (refine wpAnyH_take (i := 15) (oi := ⟨_, _, _, _, _, _⟩) (v := ?_) rfl (by kernel_rfl) (by kernel_rfl) (by kernel_rfl) (fun _ _ _ h => h) (Or.inl ⟨by rfl, ?_⟩) (by exact hH3) ?_; rotate_left; (focus (intro x hx; (try dsimp only at hx); go_simp; try (with_reducible rfl))))
              try simp only [Act.put, List.setIfInBounds_toArray, List.set_cons_zero, List.set_cons_succ]
              first
                | (refine wpAnyH_take (i := 16) (oi := ⟨_, _, _, _, _, _⟩) (v := undef) rfl (by kernel_rfl) (by kernel_rfl) (by kernel_rfl) (fun _ _ _ h => h) (Or.inr ⟨by rfl, rfl⟩) (by exact hH3) ?_; have hH4 := hH3)
                | (refine wpAnyH_ready (rs := [16]) (by kernel_rfl) (by simp) ?_; refine AllReadyH.cons (o := ⟨_, _, _, _, _, _⟩) rfl (fun K hK => ?_) ?_; rotate_left; (focus exact AllReadyH.nil); go_simp; go_at_call 34; refine (refCounts_any fa fn fc fl _ _ (Ints.kept ?hk J2.out)).mono ?_; (case hk => (repeat (first | with_reducible exact BC | with_reducible refine qDrew ?_ | with_reducible refine qAlloc ?_))); rw [h3]; rintro e y1 ⟨rfl, hw⟩; rw [hw]; clear hw; refine hK.out _ _ ?_ (fun hH4 => ?_); (focus ((try dsimp only); (refine SA.out _ ?_; (repeat (first | with_reducible exact BC | with_reducible refine qDrew ?_ | with_reducible refine qAlloc ?_))))); clear hK K)
              try simp only [Act.put, List.setIfInBounds_toArray, List.set_cons_zero, List.set_cons_succ]
              first
                | (refine wpAnyH_take (i := 17) (oi := ⟨_, _, _, _, _, _⟩) (v := undef) rfl (by kernel_rfl) (by kernel_rfl) (by kernel_rfl) (fun _ _ _ h => h) (Or.inr ⟨by rfl, rfl⟩) (by exact hH4) ?_)
                | (refine wpAnyH_take (i := 17) (oi := ⟨_, _, _, _, _, _⟩) (v := ?_) rfl (by kernel_rfl) (by kernel_rfl) (by kernel_rfl) (fun _ _ _ h => h) (Or.inl ⟨by rfl, ?_⟩) (by exact hH4) ?_; rotate_left; (focus (intro x hx; (try dsimp only at hx); go_simp; try (with_reducible rfl))))
              try simp only [Act.put, List.setIfInBounds_toArray, List.set_cons_zero, List.set_cons_succ]
              first
                | (refine wpAnyH_take (i := 18) (oi := ⟨_, _, _, _, _, _⟩) (v := undef) rfl (by kernel_rfl) (by kernel_rfl) (by kernel_rfl) (fun _ _ _ h => h) (Or.inr ⟨by rfl, rfl⟩) (by exact hH4) ?_)
                | (refine wpAnyH_take (i := 18) (oi := ⟨_, _, _, _, _, _⟩) (v := ?_) rfl (by kernel_rfl) (by kernel_rfl) (by kernel_rfl) (fun _ _ _ h => h) (Or.inl ⟨by rfl, ?_⟩) (by exact hH4) ?_; rotate_left; (focus (intro x hx; (try dsimp only at hx); go_simp; try (with_reducible rfl))))
              try simp only [Act.put, List.setIfInBounds_toArray, List.set_cons_zero, List.set_cons_succ]
              first
                | (refine wpAnyH_take (i := 19) (oi := ⟨_, _, _, _, _, _⟩) (v := undef) rfl (by kernel_rfl) (by kernel_rfl) (by kernel_rfl) (fun _ _ _ h => h) (Or.inr ⟨by rfl, rfl⟩) (by exact hH4) ?_)
                | (refine wpAnyH_take (i := 19) (oi := ⟨_, _, _, _, _, _⟩) (v := ?_) rfl (by kernel_rfl) (by kernel_rfl) (by kernel_rfl) (fun _ _ _ h => h) (Or.inl ⟨by rfl, ?_⟩) (by exact hH4) ?_; rotate_left; (focus (intro x hx; (try dsimp only at hx); go_simp; try (with_reducible rfl))))
              try simp only [Act.put, List.setIfInBounds_toArray, List.set_cons_zero, List.set_cons_succ]
              first
                | (refine wpAnyH_take (i := 20) (oi := ⟨_, _, _, _, _, _⟩) (v := undef) rfl (by kernel_rfl) (by kernel_rfl) (by kernel_rfl) (fun _ _ _ h => h) (Or.inr ⟨by rfl, rfl⟩) (by exact hH4) ?_)
                | (refine wpAnyH_take (i := 20) (oi := ⟨_, _, _, _, _, _⟩) (v := ?_) rfl (by kernel_rfl) (by kernel_rfl) (by kernel_rfl) (fun _ _ _ h => h) (Or.inl ⟨by rfl, ?_⟩) (by exact hH4) ?_; rotate_left; (focus (intro x hx; (try dsimp only at hx); go_simp; try (with_reducible rfl))))
              try simp only [Act.put, List.setIfInBounds_toArray, List.set_cons_zero, List.set_cons_succ]
              first
                | (refine wpAnyH_take (i := 21) (oi := ⟨_, _, _, _, _, _⟩) (v := undef) rfl (by kernel_rfl) (by kernel_rfl) (by kernel_rfl) (fun _ _ _ h => h) (Or.inr ⟨by rfl, rfl⟩) (by exact hH4) ?_)
                | (refine wpAnyH_take (i := 21) (oi := ⟨_, _, _, _, _, _⟩) (v := ?_) rfl (by kernel_rfl) (by kernel_rfl) (by kernel_rfl) (fun _ _ _ h => h) (Or.inl ⟨by rfl, ?_⟩) (by exact hH4) ?_; rotate_left; (focus (intro x hx; (try dsimp only at hx); go_simp; try (with_reducible rfl))))
              try simp only [Act.put, List.setIfInBounds_toArray, List.set_cons_zero, List.set_cons_succ]
              first
                | (refine wpAnyH_take (i := 22) (oi := ⟨_, _, _, _, _, _⟩) (v := undef) rfl (by kernel_rfl) (by kernel_rfl) (by kernel_rfl) (fun _ _ _ h => h) (Or.inr ⟨by rfl, rfl⟩) (by exact hH4) ?_)
                | (refine wpAnyH_take (i := 22) (oi := ⟨_, _, _, _, _, _⟩) (v := ?_) rfl (by kernel_rfl) (by kernel_rfl) (by kernel_rfl) (fun _ _ _ h => h) (Or.inl ⟨by rfl, ?_⟩) (by exact hH4) ?_; rotate_left; (focus (intro x hx; (try dsimp only at hx); go_simp; try (with_reducible rfl))))
              try simp only [Act.put, List.setIfInBounds_toArray, List.set_cons_zero, List.set_cons_succ]
              first
                | (refine wpAnyH_take (i := 23) (oi := ⟨_, _, _, _, _, _⟩) (v := undef) rfl (by kernel_rfl) (by kernel_rfl) (by kernel_rfl) (fun _ _ _ h => h) (Or.inr ⟨by rfl, rfl⟩) (by exact hH4) ?_)
                | (refine wpAnyH_take (i := 23) (oi := ⟨_, _, _, _, _, _⟩) (v := ?_) rfl (by kernel_rfl) (by kernel_rfl) (by kernel_rfl) (fun _ _ _ h => h) (Or.inl ⟨by rfl, ?_⟩) (by exact hH4) ?_; rotate_left; (focus (intro x hx; (try dsimp only at hx); go_simp; try (with_reducible rfl))))
              try simp only [Act.put, List.setIfInBounds_toArray, List.set_cons_zero, List.set_cons_succ]
              first
                | (refine wpAnyH_take (i := 24) (oi := ⟨_, _, _, _, _, _⟩) (v := undef) rfl (by kernel_rfl) (by kernel_rfl) (by kernel_rfl) (fun _ _ _ h => h) (Or.inr ⟨by rfl, rfl⟩) (by exact hH4) ?_)
                | (refine wpAnyH_take (i := 24) (oi := ⟨_, _, _, _, _, _⟩) (v := ?_) rfl (by kernel_rfl) (by kernel_rfl) (by kernel_rfl) (fun _ _ _ h => h) (Or.inl ⟨by rfl, ?_⟩) (by exact hH4) ?_; rotate_left; (focus (intro x hx; (try dsimp only at hx); go_simp; try (with_reducible rfl))))
              try simp only [Act.put, List.setIfInBounds_toArray, List.set_cons_zero, List.set_cons_succ]
              first
                | (refine wpAnyH_take (i := 25) (oi := ⟨_, _, _, _, _, _⟩) (v := undef) rfl (by kernel_rfl) (by kernel_rfl) (by kernel_rfl) (fun _ _ _ h => h) (Or.inr ⟨by rfl, rfl⟩) (by exact hH4) ?_)
                | (refine wpAnyH_take (i := 25) (oi := ⟨_, _, _, _, _, _⟩) (v := ?_) rfl (by kernel_rfl) (by kernel_rfl) (by kernel_rfl) (fun _ _ _ h => h) (Or.inl ⟨by rfl, ?_⟩) (by exact hH4) ?_; rotate_left; (focus (intro x hx; (try dsimp only at hx); go_simp; try (with_reducible rfl))))
              try simp only [Act.put, List.setIfInBounds_toArray, List.set_cons_zero, List.set_cons_succ]
              first
                | (refine wpAnyH_take (i := 26) (oi := ⟨_, _, _, _, _, _⟩) (v := undef) rfl (by kernel_rfl) (by kernel_rfl) (by kernel_rfl) (fun _ _ _ h => h) (Or.inr ⟨by rfl, rfl⟩) (by exact hH4) ?_)
                | (refine wpAnyH_take (i := 26) (oi := ⟨_, _, _, _, _, _⟩) (v := ?_) rfl (by kernel_rfl) (by kernel_rfl) (by kernel_rfl) (fun _ _ _ h => h) (Or.inl ⟨by rfl, ?_⟩) (by exact hH4) ?_; rotate_left; (focus (intro x hx; (try dsimp only at hx); go_simp; try (with_reducible rfl))))
              try simp only [Act.put, List.setIfInBounds_toArray, List.set_cons_zero, List.set_cons_succ]
              first
                | (refine wpAnyH_take (i := 27) (oi := ⟨_, _, _, _, _, _⟩) (v := undef) rfl (by kernel_rfl) (by kernel_rfl) (by kernel_rfl) (fun _ _ _ h => h) (Or.inr ⟨by rfl, rfl⟩) (by exact hH4) ?_)
                | (refine wpAnyH_take (i := 27) (oi := ⟨_, _, _, _, _, _⟩) (v := ?_) rfl (by kernel_rfl) (by kernel_rfl) (by kernel_rfl) (fun _ _ _ h => h) (Or.inl ⟨by rfl, ?_⟩) (by exact hH4) ?_; rotate_left; (focus (intro x hx; (try dsimp only at hx); go_simp; try (with_reducible rfl))))
              try simp only [Act.put, List.setIfInBounds_toArray, List.set_cons_zero, List.set_cons_succ]
              first
                | (refine wpAnyH_take (i := 28) (oi := ⟨_, _, _, _, _, _⟩) (v := undef) rfl (by kernel_rfl) (by kernel_rfl) (by kernel_rfl) (fun _ _ _ h => h) (Or.inr ⟨by rfl, rfl⟩) (by exact hH4) ?_)
                | (refine wpAnyH_take (i := 28) (oi := ⟨_, _, _, _, _, _⟩) (v := ?_) rfl (by kernel_rfl) (by kernel_rfl) (by kernel_rfl) (fun _ _ _ h => h) (Or.inl ⟨by rfl, ?_⟩) (by exact hH4) ?_; rotate_left; (focus (intro x hx; (try dsimp only at hx); go_simp; try (with_reducible rfl))))
              try simp only [Act.put, List.setIfInBounds_toArray, List.set_cons_zero, List.set_cons_succ]
              first
                | (refine wpAnyH_take (i := 29) (oi := ⟨_, _, _, _, _, _⟩) (v := undef) rfl (by kernel_rfl) (by kernel_rfl) (by kernel_rfl) (fun _ _ _ h => h) (Or.inr ⟨by rfl, rfl⟩) (by exact hH4) ?_)
                | (refine wpAnyH_take (i := 29) (oi := ⟨_, _, _, _, _, _⟩) (v := ?_) rfl (by kernel_rfl) (by kernel_rfl) (by kernel_rfl) (fun _ _ _ h => h) (Or.inl ⟨by rfl, ?_⟩) (by exact hH4) ?_; rotate_left; (focus (intro x hx; (try dsimp only at hx); go_simp; try (with_reducible rfl))))
              try simp only [Act.put, List.setIfInBounds_toArray, List.set_cons_zero, List.set_cons_succ]
              first
                | (refine wpAnyH_take (i := 30) (oi := ⟨_, _, _, _, _, _⟩) (v := undef) rfl (by kernel_rfl) (by kernel_rfl) (by kernel_rfl) (fun _ _ _ h => h) (Or.inr ⟨by rfl, rfl⟩) (by exact hH4) ?_)
                | (refine wpAnyH_take (i := 30) (oi := ⟨_, _, _, _, _, _⟩) (v := ?_) rfl (by kernel_rfl) (by kernel_rfl) (by kernel_rfl) (fun _ _ _ h => h) (Or.inl ⟨by rfl, ?_⟩) (by exact hH4) ?_; rotate_left; (focus (intro x hx; (try dsimp only at hx); go_simp; try (with_reducible rfl))))
              try simp only [Act.put, List.setIfInBounds_toArray, List.set_cons_zero, List.set_cons_succ]
              refine wpAnyH_done (by kernel_rfl) ?_ _
              go_wp2_with fail
              go_meet
              case rel => exact ⟨by rw [HD.out, h1, h2, h3]; rfl, by repeat (first | with_reducible exact BC | with_reducible refine qDrew ?_ | with_reducible refine qAlloc ?_)⟩
            · by_cases h4 : (an : Int) = fx
              · have h5 : ((an : Int) == fx) = true := by simpa using h4
                have h6 : ((an : Int) != fx) = false := by simpa using h4
                refine wp_region_held_drew (S := fun w' => w'.cell? ⟨V.heap.size, 0, none⟩ = some (.int .i64 x) ∧ w'.cell? ⟨V.heap.size, 1, none⟩ = some (.slice ja jn jc) ∧ w'.cell? ⟨V.heap.size, 2, none⟩ = some (.slice fa fn fc) ∧ w'.cell? ⟨V.heap.size, 3, none⟩ = some (.slice aa an ac) ∧ w'.cell? ⟨w.heap.size, 0, none⟩ = some (.slice (some ⟨b5, o5, none⟩) rn pc) ∧ w'.cell? ⟨b5, o5 + q * 3, none⟩ = some (.int .i64 fx)) (by kernel_rfl) ?_ (fun hH0 => ?_)
                · (try dsimp only); (refine SA.out _ ?_; (repeat (first | with_reducible exact BC | with_reducible refine qDrew ?_ | with_reducible refine qAlloc ?_)))
                first
                  | (refine wpAnyH_take (i := 0) (oi := ⟨_, _, _, _, _, _⟩) (v := undef) rfl (by kernel_rfl) (by kernel_rfl) (by kernel_rfl) (fun _ _ _ h => h) (Or.inr ⟨by rfl, rfl⟩) (by exact hH0) ?_)
                  | (refine wpAnyH_take (i := 0) (oi := ⟨_, _, _, _, _, _⟩) (v := ?_) rfl (by kernel_rfl) (by kernel_rfl) (by kernel_rfl) (fun _ _ _ h => h) (Or.inl ⟨by rfl, ?_⟩) (by exact hH0) ?_; rotate_left; (focus (intro x hx; (try dsimp only at hx); go_simp; try (with_reducible rfl))))
                try simp only [Act.put, List.setIfInBounds_toArray, List.set_cons_zero, List.set_cons_succ]
                first
                  | (refine wpAnyH_take (i := 1) (oi := ⟨_, _, _, _, _, _⟩) (v := undef) rfl (by kernel_rfl) (by kernel_rfl) (by kernel_rfl) (fun _ _ _ h => h) (Or.inr ⟨by rfl, rfl⟩) (by exact hH0) ?_)
                  | (refine wpAnyH_take (i := 1) (oi := ⟨_, _, _, _, _, _⟩) (v := ?_) rfl (by kernel_rfl) (by kernel_rfl) (by kernel_rfl) (fun _ _ _ h => h) (Or.inl ⟨by rfl, ?_⟩) (by exact hH0) ?_; rotate_left; (focus (intro x hx; (try dsimp only at hx); go_simp; try (with_reducible rfl))))
                try simp only [Act.put, List.setIfInBounds_toArray, List.set_cons_zero, List.set_cons_succ]
                first
                  | (refine wpAnyH_take (i := 2) (oi := ⟨_, _, _, _, _, _⟩) (v := undef) rfl (by kernel_rfl) (by kernel_rfl) (by kernel_rfl) (fun _ _ _ h => h) (Or.inr ⟨by rfl, rfl⟩) (by exact hH0) ?_; have hH1 := hH0)
                  | (refine wpAnyH_ready (rs := [2]) (by kernel_rfl) (by simp) ?_; refine AllReadyH.cons (o := ⟨_, _, _, _, _, _⟩) rfl (fun K hK => ?_) ?_; rotate_left; (focus exact AllReadyH.nil); go_simp; refine hK.out _ _ ?_ (fun hH1 => ?_); (focus ((try dsimp only); (refine SA.out _ ?_; (repeat (first | with_reducible exact BC | with_reducible refine qDrew ?_ | with_reducible refine qAlloc ?_))))); clear hK K)
                try simp only [Act.put, List.setIfInBounds_toArray, List.set_cons_zero, List.set_cons_succ]
                first
                  | (refine wpAnyH_take (i := 3) (oi := ⟨_, _, _, _, _, _⟩) (v := undef) rfl (by kernel_rfl) (by kernel_rfl) (by kernel_rfl) (fun _ _ _ h => h) (Or.inr ⟨by rfl, rfl⟩) (by exact hH1) ?_; have hH2 := hH1)
                  | (refine wpAnyH_ready (rs := [3]) (by kernel_rfl) (by simp) ?_; refine AllReadyH.cons (o := ⟨_, _, _, _, _, _⟩) rfl (fun K hK => ?_) ?_; rotate_left; (focus exact AllReadyH.nil); go_simp; go_at_call 34; refine (refCounts_any _ 1 1 [x] 1 _ NL.out).mono ?_; rw [h1]; rintro e y1 ⟨rfl, hw⟩; rw [hw]; clear hw; refine hK.out _ _ ?_ (fun hH2 => ?_); (focus ((try dsimp only); (refine SA.out _ ?_; (repeat (first | with_reducible exact BC | with_reducible refine qDrew ?_ | with_reducible refine qAlloc ?_))))); clear hK K)
                try simp only [Act.put, List.setIfInBounds_toArray, List.set_cons_zero, List.set_cons_succ]
                first
                  | (refine wpAnyH_take (i := 4) (oi := ⟨_, _, _, _, _, _⟩) (v := undef) rfl (by kernel_rfl) (by kernel_rfl) (by kernel_rfl) (fun _ _ _ h => h) (Or.inr ⟨by rfl, rfl⟩) (by exact hH2) ?_)
                  | (refine wpAnyH_take (i := 4) (oi := ⟨_, _, _, _, _, _⟩) (v := ?_) rfl (by kernel_rfl) (by kernel_rfl) (by kernel_rfl) (fun _ _ _ h => h) (Or.inl ⟨by rfl, ?_⟩) (by exact hH2) ?_; rotate_left; (focus (intro x hx; (try dsimp only at hx); go_simp; try (with_reducible rfl))))
                try simp only [Act.put, List.setIfInBounds_toArray, List.set_cons_zero, List.set_cons_succ]
                first
                  | (refine wpAnyH_take (i := 5) (oi := ⟨_, _, _, _, _, _⟩) (v := undef) rfl (by kernel_rfl) (by kernel_rfl) (by kernel_rfl) (fun _ _ _ h => h) (Or.inr ⟨by rfl, rfl⟩) (by exact hH2) ?_)
                  | (refine wpAnyH_take (i := 5) (oi := ⟨_, _, _, _, _, _⟩) (v := ?_) rfl (by kernel_rfl) (by kernel_rfl) (by kernel_rfl) (fun _ _ _ h => h) (Or.inl ⟨by rfl, ?_⟩) (by exact hH2) ?_; rotate_left; (focus (intro x hx; (try dsimp only at hx); go_simp; try (with_reducible rfl))))
                try simp only [Act.put, List.setIfInBounds_toArray, List.set_cons_zero, List.set_cons_succ]
                first
                  | (refine wpAnyH_take (i := 6) (oi := ⟨_, _, _, _, _, _⟩) (v := undef) rfl (by kernel_rfl) (by kernel_rfl) (by kernel_rfl) (fun _ _ _ h => h) (Or.inr ⟨by rfl, rfl⟩) (by exact hH2) ?_)
                  | (refine wpAnyH_take (i := 6) (oi := ⟨_, _, _, _, _, _⟩) (v := ?_) rfl (by kernel_rfl) (by kernel_rfl) (by kernel_rfl) (fun _ _ _ h => h) (Or.inl ⟨by rfl, ?_⟩) (by exact hH2) ?_; rotate_left; (focus (intro x hx; (try dsimp only at hx); go_simp; try (with_reducible rfl))))
                try simp only [Act.put, List.setIfInBounds_toArray, List.set_cons_zero, List.set_cons_succ]
                first
                  | (refine wpAnyH_take (i := 7) (oi := ⟨_, _, _, _, _, _⟩) (v := undef) rfl (by kernel_rfl) (by kernel_rfl) (by kernel_rfl) (fun _ _ _ h => h) (Or.inr ⟨by rfl, rfl⟩) (by exact hH2) ?_)
                  | (refine wpAnyH_take (i := 7) (oi := ⟨_, _, _, _, _, _⟩) (v := ?_) rfl (by kernel_rfl) (by kernel_rfl) (by kernel_rfl) (fun _ _ _ h => h) (Or.inl ⟨by rfl, ?_⟩) (by exact hH2) ?_; rotate_left; (focus (intro x hx; (try dsimp only at hx); go_simp; try (with_reducible rfl))))
                try simp only [Act.put, List.setIfInBounds_toArray, List.set_cons_zero, List.set_cons_succ]
                first
                  | (refine wpAnyH_take (i := 8) (oi := ⟨_, _, _, _, _, _⟩) (v := undef) rfl (by kernel_rfl) (by kernel_rfl) (by kernel_rfl) (fun _ _ _ h => h) (Or.inr ⟨by rfl, rfl⟩) (by exact hH2) ?_)
                  | (refine wpAnyH_take (i := 8) (oi := ⟨_, _, _, _, _, _⟩) (v := ?_) rfl (by kernel_rfl) (by kernel_rfl) (by kernel_rfl) (fun _ _ _ h => h) (Or.inl ⟨by rfl, ?_⟩) (by exact hH2) ?_; rotate_left; (focus (intro x hx; (try dsimp only at hx); go_simp; try (with_reducible rfl))))
                try simp only [Act.put, List.setIfInBounds_toArray, List.set_cons_zero, List.set_cons_succ]
                first
                  | (refine wpAnyH_take (i := 9) (oi := ⟨_, _, _, _, _, _⟩) (v := undef) rfl (by kernel_rfl) (by kernel_rfl) (by kernel_rfl) (fun _ _ _ h => h) (Or.inr ⟨by rfl, rfl⟩) (by exact hH2) ?_; have hH3 := hH2)
                  | (refine wpAnyH_ready (rs := [9]) (by kernel_rfl) (by simp) ?_; refine AllReadyH.cons (o := ⟨_, _, _, _, _, _⟩) rfl (fun K hK => ?_) ?_; rotate_left; (focus exact AllReadyH.nil); go_simp; go_at_call 34; refine (refCounts_any ja jn jc jl _ _ (Ints.kept ?hk J1.out)).mono ?_; (case hk => (repeat (first | with_reducible exact BC | with_reducible refine qDrew ?_ | with_reducible refine qAlloc ?_))); rw [h2]; rintro e y1 ⟨rfl, hw⟩; rw [hw]; clear hw; refine hK.out _ _ ?_ (fun hH3 => ?_); (focus ((try dsimp only); (refine SA.out _ ?_; (repeat (first | with_reducible exact BC | with_reducible refine qDrew ?_ | with_reducible refine qAlloc ?_))))); clear hK K)
                try simp only [Act.put, List.setIfInBounds_toArray, List.set_cons_zero, List.set_cons_succ]
                first
                  | (refine wpAnyH_take (i := 10) (oi := ⟨_, _, _, _, _, _⟩) (v := undef) rfl (by kernel_rfl) (by kernel_rfl) (by kernel_rfl) (fun _ _ _ h => h) (Or.inr ⟨by rfl, rfl⟩) (by exact hH3) ?_)
                  | (refine wpAnyH_take (i := 10) (oi := ⟨_, _, _, _, _, _⟩) (v := ?_) rfl (by kernel_rfl) (by kernel_rfl) (by kernel_rfl) (fun _ _ _ h => h) (Or.inl ⟨by rfl, ?_⟩) (by exact hH3) ?_; rotate_left; (focus (intro x hx; (try dsimp only at hx); go_simp; try (with_reducible rfl))))
                try simp only [Act.put, List.setIfInBounds_toArray, List.set_cons_zero, List.set_cons_succ]
                first
                  | (refine wpAnyH_take (i := 11) (oi := ⟨_, _, _, _, _, _⟩) (v := undef) rfl (by kernel_rfl) (by kernel_rfl) (by kernel_rfl) (fun _ _ _ h => h) (Or.inr ⟨by rfl, rfl⟩) (by exact hH3) ?_)
                  | (refine wpAnyH_take (i := 11) (oi := ⟨_, _, _, _, _, _⟩) (v := ?_) rfl (by kernel_rfl) (by kernel_rfl) (by kernel_rfl) (fun _ _ _ h => h) (Or.inl ⟨by rfl, ?_⟩) (by exact hH3) ?_; rotate_left; (focus (intro x hx; (try dsimp only at hx); go_simp; try (with_reducible rfl))))
                try simp only [Act.put, List.setIfInBounds_toArray, List.set_cons_zero, List.set_cons_succ]
                first
                  | (refine wpAnyH_take (i := 12) (oi := ⟨_, _, _, _, _, _⟩) (v := undef) rfl (by kernel_rfl) (by kernel_rfl) (by kernel_rfl) (fun _ _ _ h => h) (Or.inr ⟨by rfl, rfl⟩) (by exact hH3) ?_)
                  | (refine wpAnyH_take (i := 12) (oi := ⟨_, _, _, _, _, _⟩) (v := ?_) rfl (by kernel_rfl) (by kernel_rfl) (by kernel_rfl) (fun _ _ _ h => h) (Or.inl ⟨by rfl, ?_⟩) (by exact hH3) ?_; rotate_left; (focus (intro x hx; (try dsimp only at hx); go_simp; try (with_reducible rfl))))
                try simp only [Act.put, List.setIfInBounds_toArray, List.set_cons_zero, List.set_cons_succ]
                first
                  | (refine wpAnyH_take (i := 13) (oi := ⟨_, _, _, _, _, _⟩) (v := undef) rfl (by kernel_rfl) (by kernel_rfl) (by kernel_rfl) (fun _ _ _ h => h) (Or.inr ⟨by rfl, rfl⟩) (by exact hH3) ?_)
                  | (refine wpAnyH_take (i := 13) (oi := ⟨_, _, _, _, _, _⟩) (v := ?_) rfl (by kernel_rfl) (by kernel_rfl) (by kernel_rfl) (fun _ _ _ h => h) (Or.inl ⟨by rfl, ?_⟩) (by exact hH3) ?_; rotate_left; (focus (intro x hx; (try dsimp only at hx); go_simp; try (with_reducible rfl))))
                try simp only [Act.put, List.setIfInBounds_toArray, List.set_cons_zero, List.set_cons_succ]
                first
                  | (refine wpAnyH_take (i := 14) (oi := ⟨_, _, _, _, _, _⟩) (v := undef) rfl (by kernel_rfl) (by kernel_rfl) (by kernel_rfl) (fun _ _ _ h => h) (Or.inr ⟨by rfl, rfl⟩) (by exact hH3) ?_)
                  | (refine wpAnyH_take (i := 14) (oi := ⟨_, _, _, _, _, _⟩) (v := ?_) rfl (by kernel_rfl) (by kernel_rfl) (by kernel_rfl) (fun _ _ _ h => h) (Or.inl ⟨by rfl, ?_⟩) (by exact hH3) ?_; rotate_left; (focus (intro x hx; (try dsimp only at hx); go_simp; try (with_reducible rfl))))
                try simp only [Act.put, List.setIfInBounds_toArray, List.set_cons_zero, List.set_cons_succ]
                first
                  | (refine wpAnyH_take (i := 15) (oi := ⟨_, _, _, _, _, _⟩) (v := undef) rfl (by kernel_rfl) (by kernel_rfl) (by kernel_rfl) (fun _ _ _ h => h) (Or.inr ⟨by rfl, rfl⟩) (by exact hH3) ?_)
                  | (refine wpAnyH_take (i := 15) (oi := ⟨_, _, _, _, _, _⟩) (v := ?_) rfl (by kernel_rfl) (by kernel_rfl) (by kernel_rfl) (fun _ _ _ h => h) (Or.inl ⟨by rfl, ?_⟩) (by exact hH3) ?_; rotate_left; (focus (intro x hx; (try dsimp only at hx); go_simp; try (with_reducible rfl))))
                try simp only [Act.put, List.setIfInBounds_toArray, List.set_cons_zero, List.set_cons_succ]
                first
                  | (refine wpAnyH_take (i := 16) (oi := ⟨_, _, _, _, _, _⟩) (v := undef) rfl (by kernel_rfl) (by kernel_rfl) (by kernel_rfl) (fun _ _ _ h => h) (Or.inr ⟨by rfl, rfl⟩) (by exact hH3) ?_; have hH4 := hH3)
                  | (refine wpAnyH_ready (rs := [16]) (by kernel_rfl) (by simp) ?_; refine AllReadyH.cons (o := ⟨_, _, _, _, _, _⟩) rfl (fun K hK => ?_) ?_; rotate_left; (focus exact AllReadyH.nil); go_simp; go_at_call 34; refine (refCounts_any fa fn fc fl _ _ (Ints.kept ?hk J2.out)).mono ?_; (case hk => (repeat (first | with_reducible exact BC | with_reducible refine qDrew ?_ | with_reducible refine qAlloc ?_))); rw [h3]; rintro e y1 ⟨rfl, hw⟩; rw [hw]; clear hw; refine hK.out _ _ ?_ (fun hH4 => ?_); (focus ((try dsimp only); (refine SA.out _ ?_; (repeat (first | with_reducible exact BC | with_reducible refine qDrew ?_ | with_reducible refine qAlloc ?_))))); clear hK K)
                try simp only [Act.put, List.setIfInBounds_toArray, List.set_cons_zero, List.set_cons_succ]
                first
                  | (refine wpAnyH_take (i := 17) (oi := ⟨_, _, _, _, _, _⟩) (v := undef) rfl (by kernel_rfl) (by kernel_rfl) (by kernel_rfl) (fun _ _ _ h => h) (Or.inr ⟨by rfl, rfl⟩) (by exact hH4) ?_)
                  | (refine wpAnyH_take (i := 17) (oi := ⟨_, _, _, _, _, _⟩) (v := ?_) rfl (by kernel_rfl) (by kernel_rfl) (by kernel_rfl) (fun _ _ _ h => h) (Or.inl ⟨by rfl, ?_⟩) (by exact hH4) ?_; rotate_left; (focus (intro x hx; (try dsimp only at hx); go_simp; try (with_reducible rfl))))
                try simp only [Act.put, List.setIfInBounds_toArray, List.set_cons_zero, List.set_cons_succ]
                first
                  | (refine wpAnyH_take (i := 18) (oi := ⟨_, _, _, _, _, _⟩) (v := undef) rfl (by kernel_rfl) (by kernel_rfl) (by kernel_rfl) (fun _ _ _ h => h) (Or.inr ⟨by rfl, rfl⟩) (by exact hH4) ?_)
                  | (refine wpAnyH_take (i := 18) (oi := ⟨_, _, _, _, _, _⟩) (v := ?_) rfl (by kernel_rfl) (by kernel_rfl) (by kernel_rfl) (fun _ _ _ h => h) (Or.inl ⟨by rfl, ?_⟩) (by exact hH4) ?_; rotate_left; (focus (intro x hx; (try dsimp only at hx); go_simp; try (with_reducible rfl))))
                try simp only [Act.put, List.setIfInBounds_toArray, List.set_cons_zero, List.set_cons_succ]
                first
                  | (refine wpAnyH_take (i := 19) (oi := ⟨_, _, _, _, _, _⟩) (v := undef) rfl (by kernel_rfl) (by kernel_rfl) (by kernel_rfl) (fun _ _ _ h => h) (Or.inr ⟨by rfl, rfl⟩) (by exact hH4) ?_)
                  | (refine wpAnyH_take (i := 19) (oi := ⟨_, _, _, _, _, _⟩) (v := ?_) rfl (by kernel_rfl) (by kernel_rfl) (by kernel_rfl) (fun _ _ _ h => h) (Or.inl ⟨by rfl, ?_⟩) (by exact hH4) ?_; rotate_left; (focus (intro x hx; (try dsimp only at hx); go_simp; try (with_reducible rfl))))
                try simp only [Act.put, List.setIfInBounds_toArray, List.set_cons_zero, List.set_cons_succ]
                first
                  | (refine wpAnyH_take (i := 20) (oi := ⟨_, _, _, _, _, _⟩) (v := undef) rfl (by kernel_rfl) (by kernel_rfl) (by kernel_rfl) (fun _ _ _ h => h) (Or.inr ⟨by rfl, rfl⟩) (by exact hH4) ?_)
                  | (refine wpAnyH_take (i := 20) (oi := ⟨_, _, _, _, _, _⟩) (v := ?_) rfl (by kernel_rfl) (by kernel_rfl) (by kernel_rfl) (fun _ _ _ h => h) (Or.inl ⟨by rfl, ?_⟩) (by exact hH4) ?_; rotate_left; (focus (intro x hx; (try dsimp only at hx); go_simp; try (with_reducible rfl))))
                try simp only [Act.put, List.setIfInBounds_toArray, List.set_cons_zero, List.set_cons_succ]
                first
                  | (refine wpAnyH_take (i := 21) (oi := ⟨_, _, _, _, _, _⟩) (v := undef) rfl (by kernel_rfl) (by kernel_rfl) (by kernel_rfl) (fun _ _ _ h => h) (Or.inr ⟨by rfl, rfl⟩) (by exact hH4) ?_)
                  | (refine wpAnyH_take (i := 21) (oi := ⟨_, _, _, _, _, _⟩) (v := ?_) rfl (by kernel_rfl) (by kernel_rfl) (by kernel_rfl) (fun _ _ _ h => h) (Or.inl ⟨by rfl, ?_⟩) (by exact hH4) ?_; rotate_left; (focus (intro x hx; (try dsimp only at hx); go_simp; try (with_reducible rfl))))
                try simp only [Act.put, List.setIfInBounds_toArray, List.set_cons_zero, List.set_cons_succ]
                first
                  | (refine wpAnyH_take (i := 22) (oi := ⟨_, _, _, _, _, _⟩) (v := undef) rfl (by kernel_rfl) (by kernel_rfl) (by kernel_rfl) (fun _ _ _ h => h) (Or.inr ⟨by rfl, rfl⟩) (by exact hH4) ?_)
                  | (refine wpAnyH_take (i := 22) (oi := ⟨_, _, _, _, _, _⟩) (v := ?_) rfl (by kernel_rfl) (by kernel_rfl) (by kernel_rfl) (fun _ _ _ h => h) (Or.inl ⟨by rfl, ?_⟩) (by exact hH4) ?_; rotate_left; (focus (intro x hx; (try dsimp only at hx); go_simp; try (with_reducible rfl))))
                try simp only [Act.put, List.setIfInBounds_toArray, List.set_cons_zero, List.set_cons_succ]
                first
                  | (refine wpAnyH_take (i := 23) (oi := ⟨_, _, _, _, _, _⟩) (v := undef) rfl (by kernel_rfl) (by kernel_rfl) (by kernel_rfl) (fun _ _ _ h => h) (Or.inr ⟨by rfl, rfl⟩) (by exact hH4) ?_)
                  | (refine wpAnyH_take (i := 23) (oi := ⟨_, _, _, _, _, _⟩) (v := ?_) rfl (by kernel_rfl) (by kernel_rfl) (by kernel_rfl) (fun _ _ _ h => h) (Or.inl ⟨by rfl, ?_⟩) (by exact hH4) ?_; rotate_left; (focus (intro x hx; (try dsimp only at hx); go_simp; try (with_reducible rfl))))
                try simp only [Act.put, List.setIfInBounds_toArray, List.set_cons_zero, List.set_cons_succ]
                first
                  | (refine wpAnyH_take (i := 24) (oi := ⟨_, _, _, _, _, _⟩) (v := undef) rfl (by kernel_rfl) (by kernel_rfl) (by kernel_rfl) (fun _ _ _ h => h) (Or.inr ⟨by rfl, rfl⟩) (by exact hH4) ?_)
                  | (refine wpAnyH_take (i := 24) (oi := ⟨_, _, _, _, _, _⟩) (v := ?_) rfl (by kernel_rfl) (by kernel_rfl) (by kernel_rfl) (fun _ _ _ h => h) (Or.inl ⟨by rfl, ?_⟩) (by exact hH4) ?_; rotate_left; (focus (intro x hx; (try dsimp only at hx); go_simp; try (with_reducible rfl))))
                try simp only [Act.put, List.setIfInBounds_toArray, List.set_cons_zero, List.set_cons_succ]
                first
                  | (refine wpAnyH_take (i := 25) (oi := ⟨_, _, _, _, _, _⟩) (v := undef) rfl (by kernel_rfl) (by kernel_rfl) (by kernel_rfl) (fun _ _ _ h => h) (Or.inr ⟨by rfl, rfl⟩) (by exact hH4) ?_)
                  | (refine wpAnyH_take (i := 25) (oi := ⟨_, _, _, _, _, _⟩) (v := ?_) rfl (by kernel_rfl) (by kernel_rfl) (by kernel_rfl) (fun _ _ _ h => h) (Or.inl ⟨by rfl, ?_⟩) (by exact hH4) ?_; rotate_left; (focus (intro x hx; (try dsimp only at hx); go_simp; try (with_reducible rfl))))
                try simp only [Act.put, List.setIfInBounds_toArray, List.set_cons_zero, List.set_cons_succ]
                first
                  | (refine wpAnyH_take (i := 26) (oi := ⟨_, _, _, _, _, _⟩) (v := undef) rfl (by kernel_rfl) (by kernel_rfl) (by kernel_rfl) (fun _ _ _ h => h) (Or.inr ⟨by rfl, rfl⟩) (by exact hH4) ?_)
                  | (refine wpAnyH_take (i := 26) (oi := ⟨_, _, _, _, _, _⟩) (v := ?_) rfl (by kernel_rfl) (by kernel_rfl) (by kernel_rfl) (fun _ _ _ h => h) (Or.inl ⟨by rfl, ?_⟩) (by exact hH4) ?_; rotate_left; (focus (intro x hx; (try dsimp only at hx); go_simp; try (with_reducible rfl))))
                try simp only [Act.put, List.setIfInBounds_toArray, List.set_cons_zero, List.set_cons_succ]
                first
                  | (refine wpAnyH_take (i := 27) (oi := ⟨_, _, _, _, _, _⟩) (v := undef) rfl (by kernel_rfl) (by kernel_rfl) (by kernel_rfl) (fun _ _ _ h => h) (Or.inr ⟨by rfl, rfl⟩) (by exact hH4) ?_)
                  | (refine wpAnyH_take (i := 27) (oi := ⟨_, _, _, _, _, _⟩) (v := ?_) rfl (by kernel_rfl) (by kernel_rfl) (by kernel_rfl) (fun _ _ _ h => h) (Or.inl ⟨by rfl, ?_⟩) (by exact hH4) ?_; rotate_left; (focus (intro x hx; (try dsimp only at hx); go_simp; try (with_reducible rfl))))
                try simp only [Act.put, List.setIfInBounds_toArray, List.set_cons_zero, List.set_cons_succ]
                first
                  | (refine wpAnyH_take (i := 28) (oi := ⟨_, _, _, _, _, _⟩) (v := undef) rfl (by kernel_rfl) (by kernel_rfl) (by kernel_rfl) (fun _ _ _ h => h) (Or.inr ⟨by rfl, rfl⟩) (by exact hH4) ?_)
                  | (refine wpAnyH_take (i := 28) (oi := ⟨_, _, _, _, _, _⟩) (v := ?_) rfl (by kernel_rfl) (by kernel_rfl) (by kernel_rfl) (fun _ _ _ h => h) (Or.inl ⟨by rfl, ?_⟩) (by exact hH4) ?_; rotate_left; (focus (intro x hx; (try dsimp only at hx); go_simp; try (with_reducible rfl))))
                try simp only [Act.put, List.setIfInBounds_toArray, List.set_cons_zero, List.set_cons_succ]
                first
                  | (refine wpAnyH_take (i := 29) (oi := ⟨_, _, _, _, _, _⟩) (v := undef) rfl (by kernel_rfl) (by kernel_rfl) (by kernel_rfl) (fun _ _ _ h => h) (Or.inr ⟨by rfl, rfl⟩) (by exact hH4) ?_)
                  | (refine wpAnyH_take (i := 29) (oi := ⟨_, _, _, _, _, _⟩) (v := ?_) rfl (by kernel_rfl) (by kernel_rfl) (by kernel_rfl) (fun _ _ _ h => h) (Or.inl ⟨by rfl, ?_⟩) (by exact hH4) ?_; rotate_left; (focus (intro x hx; (try dsimp only at hx); go_simp; try (with_reducible rfl))))
                try simp only [Act.put, List.setIfInBounds_toArray, List.set_cons_zero, List.set_cons_succ]
                first
                  | (refine wpAnyH_take (i := 30) (oi := ⟨_, _, _, _, _, _⟩) (v := undef) rfl (by kernel_rfl) (by kernel_rfl) (by kernel_rfl) (fun _ _ _ h => h) (Or.inr ⟨by rfl, rfl⟩) (by exact hH4) ?_)
                  | (refine wpAnyH_take (i := 30) (oi := ⟨_, _, _, _, _, _⟩) (v := ?_) rfl (by kernel_rfl) (by kernel_rfl) (by kernel_rfl) (fun _ _ _ h => h) (Or.inl ⟨by rfl, ?_⟩) (by exact hH4) ?_; rotate_left; (focus (intro x hx; (try dsimp only at hx); go_simp; try (with_reducible rfl))))
                try simp only [Act.put, List.setIfInBounds_toArray, List.set_cons_zero, List.set_cons_succ]
                refine wpAnyH_done (by kernel_rfl) ?_ _
                go_wp2_with fail
                go_meet
                case rel => exact ⟨by rw [HD.out, h1, h2, h3, decide_eq_true h4]; rfl, by repeat (first | with_reducible exact BC | with_reducible refine qDrew ?_ | with_reducible refine qAlloc ?_)⟩
              · have h5 : ((an : Int) == fx) = false := by simpa using h4
                have h6 : ((an : Int) != fx) = true := by simpa using h4
                refine wp_region_held_drew (S := fun w' => w'.cell? ⟨V.heap.size, 0, none⟩ = some (.int .i64 x) ∧ w'.cell? ⟨V.heap.size, 1, none⟩ = some (.slice ja jn jc) ∧ w'.cell? ⟨V.heap.size, 2, none⟩ = some (.slice fa fn fc) ∧ w'.cell? ⟨V.heap.size, 3, none⟩ = some (.slice aa an ac) ∧ w'.cell? ⟨w.heap.size, 0, none⟩ = some (.slice (some ⟨b5, o5, none⟩) rn pc) ∧ w'.cell? ⟨b5, o5 + q * 3, none⟩ = some (.int .i64 fx)) (by kernel_rfl) ?_ (fun hH0 => ?_)
                · (try dsimp only); (refine SA.out _ ?_; (repeat (first | with_reducible exact BC | with_reducible refine qDrew ?_ | with_reducible refine qAlloc ?_)))
                first
                  | (refine wpAnyH_take (i := 0) (oi := ⟨_, _, _, _, _, _⟩) (v := undef) rfl (by kernel_rfl) (by kernel_rfl) (by kernel_rfl) (fun _ _ _ h => h) (Or.inr ⟨by rfl, rfl⟩) (by exact hH0) ?_)
                  | (refine wpAnyH_take (i := 0) (oi := ⟨_, _, _, _, _, _⟩) (v := ?_) rfl (by kernel_rfl) (by kernel_rfl) (by kernel_rfl) (fun _ _ _ h => h) (Or.inl ⟨by rfl, ?_⟩) (by exact hH0) ?_; rotate_left; (focus (intro x hx; (try dsimp only at hx); go_simp; try (with_reducible rfl))))
                try simp only [Act.put, List.setIfInBounds_toArray, List.set_cons_zero, List.set_cons_succ]
                first
                  | (refine wpAnyH_take (i := 1) (oi := ⟨_, _, _, _, _, _⟩) (v := undef) rfl (by kernel_rfl) (by kernel_rfl) (by kernel_rfl) (fun _ _ _ h => h) (Or.inr ⟨by rfl, rfl⟩) (by exact hH0) ?_)
                  | (refine wpAnyH_take (i := 1) (oi := ⟨_, _, _, _, _, _⟩) (v := ?_) rfl (by kernel_rfl) (by kernel_rfl) (by kernel_rfl) (fun _ _ _ h => h) (Or.inl ⟨by rfl, ?_⟩) (by exact hH0) ?_; rotate_left; (focus (intro x hx; (try dsimp only at hx); go_simp; try (with_reducible rfl))))
                try simp only [Act.put, List.setIfInBounds_toArray, List.set_cons_zero, List.set_cons_succ]
                first
                  | (refine wpAnyH_take (i := 2) (oi := ⟨_, _, _, _, _, _⟩) (v := undef) rfl (by kernel_rfl) (by kernel_rfl) (by kernel_rfl) (fun _ _ _ h => h) (Or.inr ⟨by rfl, rfl⟩) (by exact hH0) ?_; have hH1 := hH0)
                  | (refine wpAnyH_ready (rs := [2]) (by kernel_rfl) (by simp) ?_; refine AllReadyH.cons (o := ⟨_, _, _, _, _, _⟩) rfl (fun K hK => ?_) ?_; rotate_left; (focus exact AllReadyH.nil); go_simp; refine hK.out _ _ ?_ (fun hH1 => ?_); (focus ((try dsimp only); (refine SA.out _ ?_; (repeat (first | with_reducible exact BC | with_reducible refine qDrew ?_ | with_reducible refine qAlloc ?_))))); clear hK K)
                try simp only [Act.put, List.setIfInBounds_toArray, List.set_cons_zero, List.set_cons_succ]
                first
                  | (refine wpAnyH_take (i := 3) (oi := ⟨_, _, _, _, _, _⟩) (v := undef) rfl (by kernel_rfl) (by kernel_rfl) (by kernel_rfl) (fun _ _ _ h => h) (Or.inr ⟨by rfl, rfl⟩) (by exact hH1) ?_; have hH2 := hH1)
                  | (refine wpAnyH_ready (rs := [3]) (by kernel_rfl) (by simp) ?_; refine AllReadyH.cons (o := ⟨_, _, _, _, _, _⟩) rfl (fun K hK => ?_) ?_; rotate_left; (focus exact AllReadyH.nil); go_simp; go_at_call 34; refine (refCounts_any _ 1 1 [x] 1 _ NL.out).mono ?_; rw [h1]; rintro e y1 ⟨rfl, hw⟩; rw [hw]; clear hw; refine hK.out _ _ ?_ (fun hH2 => ?_); (focus ((try dsimp only); (refine SA.out _ ?_; (repeat (first | with_reducible exact BC | with_reducible refine qDrew ?_ | with_reducible refine qAlloc ?_))))); clear hK K)
                try simp only [Act.put, List.setIfInBounds_toArray, List.set_cons_zero, List.set_cons_succ]
                first
                  | (refine wpAnyH_take (i := 4) (oi := ⟨_, _, _, _, _, _⟩) (v := undef) rfl (by kernel_rfl) (by kernel_rfl) (by kernel_rfl) (fun _ _ _ h => h) (Or.inr ⟨by rfl, rfl⟩) (by exact hH2) ?_)
                  | (refine wpAnyH_take (i := 4) (oi := ⟨_, _, _, _, _, _⟩) (v := ?_) rfl (by kernel_rfl) (by kernel_rfl) (by kernel_rfl) (fun _ _ _ h => h) (Or.inl ⟨by rfl, ?_⟩) (by exact hH2) ?_; rotate_left; (focus (intro x hx; (try dsimp only at hx); go_simp; try (with_reducible rfl))))
                try simp only [Act.put, List.setIfInBounds_toArray, List.set_cons_zero, List.set_cons_succ]
                first
                  | (refine wpAnyH_take (i := 5) (oi := ⟨_, _, _, _, _, _⟩) (v := undef) rfl (by kernel_rfl) (by kernel_rfl) (by kernel_rfl) (fun _ _ _ h => h) (Or.inr ⟨by rfl, rfl⟩) (by exact hH2) ?_)
                  | (refine wpAnyH_take (i := 5) (oi := ⟨_, _, _, _, _, _⟩) (v := ?_) rfl (by kernel_rfl) (by kernel_rfl) (by kernel_rfl) (fun _ _ _ h => h) (Or.inl ⟨by rfl, ?_⟩) (by exact hH2) ?_; rotate_left; (focus (intro x hx; (try dsimp only at hx); go_simp; try (with_reducible rfl))))
                try simp only [Act.put, List.setIfInBounds_toArray, List.set_cons_zero, List.set_cons_succ]
                first
                  | (refine wpAnyH_take (i := 6) (oi := ⟨_, _, _, _, _, _⟩) (v := undef) rfl (by kernel_rfl) (by kernel_rfl) (by kernel_rfl) (fun _ _ _ h => h) (Or.inr ⟨by rfl, rfl⟩) (by exact hH2) ?_)
                  | (refine wpAnyH_take (i := 6) (oi := ⟨_, _, _, _, _, _⟩) (v := ?_) rfl (by kernel_rfl) (by kernel_rfl) (by kernel_rfl) (fun _ _ _ h => h) (Or.inl ⟨by rfl, ?_⟩) (by exact hH2) ?_; rotate_left; (focus (intro x hx; (try dsimp only at hx); go_simp; try (with_reducible rfl))))
                try simp only [Act.put, List.setIfInBounds_toArray, List.set_cons_zero, List.set_cons_succ]
                first
                  | (refine wpAnyH_take (i := 7) (oi := ⟨_, _, _, _, _, _⟩) (v := undef) rfl (by kernel_rfl) (by kernel_rfl) (by kernel_rfl) (fun _ _ _ h => h) (Or.inr ⟨by rfl, rfl⟩) (by exact hH2) ?_)
                  | (refine wpAnyH_take (i := 7) (oi := ⟨_, _, _, _, _, _⟩) (v := ?_) rfl (by kernel_rfl) (by kernel_rfl) (by kernel_rfl) (fun _ _ _ h => h) (Or.inl ⟨by rfl, ?_⟩) (by exact hH2) ?_; rotate_left; (focus (intro x hx; (try dsimp only at hx); go_simp; try (with_reducible rfl))))
                try simp only [Act.put, List.setIfInBounds_toArray, List.set_cons_zero, List.set_cons_succ]
                first
                  | (refine wpAnyH_take (i := 8) (oi := ⟨_, _, _, _, _, _⟩) (v := undef) rfl (by kernel_rfl) (by kernel_rfl) (by kernel_rfl) (fun _ _ _ h => h) (Or.inr ⟨by rfl, rfl⟩) (by exact hH2) ?_)
                  | (refine wpAnyH_take (i := 8) (oi := ⟨_, _, _, _, _, _⟩) (v := ?_) rfl (by kernel_rfl) (by kernel_rfl) (by kernel_rfl) (fun _ _ _ h => h) (Or.inl ⟨by rfl, ?_⟩) (by exact hH2) ?_; rotate_left; (focus (intro x hx; (try dsimp only at hx); go_simp; try (with_reducible rfl))))
                try simp only [Act.put, List.setIfInBounds_toArray, List.set_cons_zero, List.set_cons_succ]
                first
                  | (refine wpAnyH_take (i := 9) (oi := ⟨_, _, _, _, _, _⟩) (v := undef) rfl (by kernel_rfl) (by kernel_rfl) (by kernel_rfl) (fun _ _ _ h => h) (Or.inr ⟨by rfl, rfl⟩) (by exact hH2) ?_; have hH3 := hH2)
                  | (refine wpAnyH_ready (rs := [9]) (by kernel_rfl) (by simp) ?_; refine AllReadyH.cons (o := ⟨_, _, _, _, _, _⟩) rfl (fun K hK => ?_) ?_; rotate_left; (focus exact AllReadyH.nil); go_simp; go_at_call 34; refine (refCounts_any ja jn jc jl _ _ (Ints.kept ?hk J1.out)).mono ?_; (case hk => (repeat (first | with_reducible exact BC | with_reducible refine qDrew ?_ | with_reducible refine qAlloc ?_))); rw [h2]; rintro e y1 ⟨rfl, hw⟩; rw [hw]; clear hw; refine hK.out _ _ ?_ (fun hH3 => ?_); (focus ((try dsimp only); (refine SA.out _ ?_; (repeat (first | with_reducible exact BC | with_reducible refine qDrew ?_ | with_reducible refine qAlloc ?_))))); clear hK K)
                try simp only [Act.put, List.setIfInBounds_toArray, List.set_cons_zero, List.set_cons_succ]
                first
                  | (refine wpAnyH_take (i := 10) (oi := ⟨_, _, _, _, _, _⟩) (v := undef) rfl (by kernel_rfl) (by kernel_rfl) (by kernel_rfl) (fun _ _ _ h => h) (Or.inr ⟨by rfl, rfl⟩) (by exact hH3) ?_)
                  | (refine wpAnyH_take (i := 10) (oi := ⟨_, _, _, _, _, _⟩) (v := ?_) rfl (by kernel_rfl) (by kernel_rfl) (by kernel_rfl) (fun _ _ _ h => h) (Or.inl ⟨by rfl, ?_⟩) (by exact hH3) ?_; rotate_left; (focus (intro x hx; (try dsimp only at hx); go_simp; try (with_reducible rfl))))
                try simp only [Act.put, List.setIfInBounds_toArray, List.set_cons_zero, List.set_cons_succ]
                first
                  | (refine wpAnyH_take (i := 11) (oi := ⟨_, _, _, _, _, _⟩) (v := undef) rfl (by kernel_rfl) (by kernel_rfl) (by kernel_rfl) (fun _ _ _ h => h) (Or.inr ⟨by rfl, rfl⟩) (by exact hH3) ?_)
                  | (refine wpAnyH_take (i := 11) (oi := ⟨_, _, _, _, _, _⟩) (v := ?_) rfl (by kernel_rfl) (by kernel_rfl) (by kernel_rfl) (fun _ _ _ h => h) (Or.inl ⟨by rfl, ?_⟩) (by exact hH3) ?_; rotate_left; (focus (intro x hx; (try dsimp only at hx); go_simp; try (with_reducible rfl))))
                try simp only [Act.put, List.setIfInBounds_toArray, List.set_cons_zero, List.set_cons_succ]
                first
                  | (refine wpAnyH_take (i := 12) (oi := ⟨_, _, _, _, _, _⟩) (v := undef) rfl (by kernel_rfl) (by kernel_rfl) (by kernel_rfl) (fun _ _ _ h => h) (Or.inr ⟨by rfl, rfl⟩) (by exact hH3) ?_)
                  | (refine wpAnyH_take (i := 12) (oi := ⟨_, _, _, _, _, _⟩) (v := ?_) rfl (by kernel_rfl) (by kernel_rfl) (by kernel_rfl) (fun _ _ _ h => h) (Or.inl ⟨by rfl, ?_⟩) (by exact hH3) ?_; rotate_left; (focus (intro x hx; (try dsimp only at hx); go_simp; try (with_reducible rfl))))
                try simp only [Act.put, List.setIfInBounds_toArray, List.set_cons_zero, List.set_cons_succ]
                first
                  | (refine wpAnyH_take (i := 13) (oi := ⟨_, _, _, _, _, _⟩) (v := undef) rfl (by kernel_rfl) (by kernel_rfl) (by kernel_rfl) (fun _ _ _ h => h) (Or.inr ⟨by rfl, rfl⟩) (by exact hH3) ?_)
                  | (refine wpAnyH_take (i := 13) (oi := ⟨_, _, _, _, _, _⟩) (v := ?_) rfl (by kernel_rfl) (by kernel_rfl) (by kernel_rfl) (fun _ _ _ h => h) (Or.inl ⟨by rfl, ?_⟩) (by exact hH3) ?_; rotate_left; (focus (intro x hx; (try dsimp only at hx); go_simp; try (with_reducible rfl))))
                try simp only [Act.put, List.setIfInBounds_toArray, List.set_cons_zero, List.set_cons_succ]
                first
                  | (refine wpAnyH_take (i := 14) (oi := ⟨_, _, _, _, _, _⟩) (v := undef) rfl (by kernel_rfl) (by kernel_rfl) (by kernel_rfl) (fun _ _ _ h => h) (Or.inr ⟨by rfl, rfl⟩) (by exact hH3) ?_)
                  | (refine wpAnyH_take (i := 14) (oi := ⟨_, _, _, _, _, _⟩) (v := ?_) rfl (by kernel_rfl) (by kernel_rfl) (by kernel_rfl) (fun _ _ _ h => h) (Or.inl ⟨by rfl, ?_⟩) (by exact hH3) ?_; rotate_left; (focus (intro x hx; (try dsimp only at hx); go_simp; try (with_reducible rfl))))
                try simp only [Act.put, List.setIfInBounds_toArray, List.set_cons_zero, List.set_cons_succ]
                first
                  | (refine wpAnyH_take (i := 15) (oi := ⟨_, _, _, _, _, _⟩) (v := undef) rfl (by kernel_rfl) (by kernel_rfl) (by kernel_rfl) (fun _ _ _ h => h) (Or.inr ⟨by rfl, rfl⟩) (by exact hH3) ?_)
                  | (refine wpAnyH_take (i := 15) (oi := ⟨_, _, _, _, _, _⟩) (v := ?_) rfl (by kernel_rfl) (by kernel_rfl) (by kernel_rfl) (fun _ _ _ h => h) (Or.inl ⟨by rfl, ?_⟩) (by exact hH3) ?_; rotate_left; (focus (intro x hx; (try dsimp only at hx); go_simp; try (with_reducible rfl))))
                try simp only [Act.put, List.setIfInBounds_toArray, List.set_cons_zero, List.set_cons_succ]
                first
                  | (refine wpAnyH_take (i := 16) (oi := ⟨_, _, _, _, _, _⟩) (v := undef) rfl (by kernel_rfl) (by kernel_rfl) (by kernel_rfl) (fun _ _ _ h => h) (Or.inr ⟨by rfl, rfl⟩) (by exact hH3) ?_; have hH4 := hH3)
                  | (refine wpAnyH_ready (rs := [16]) (by kernel_rfl) (by simp) ?_; refine AllReadyH.cons (o := ⟨_, _, _, _, _, _⟩) rfl (fun K hK => ?_) ?_; rotate_left; (focus exact AllReadyH.nil); go_simp; go_at_call 34; refine (refCounts_any fa fn fc fl _ _ (Ints.kept ?hk J2.out)).mono ?_; (case hk => (repeat (first | with_reducible exact BC | with_reducible refine qDrew ?_ | with_reducible refine qAlloc ?_))); rw [h3]; rintro e y1 ⟨rfl, hw⟩; rw [hw]; clear hw; refine hK.out _ _ ?_ (fun hH4 => ?_); (focus ((try dsimp only); (refine SA.out _ ?_; (repeat (first | with_reducible exact BC | with_reducible refine qDrew ?_ | with_reducible refine qAlloc ?_))))); clear hK K)
                try simp only [Act.put, List.setIfInBounds_toArray, List.set_cons_zero, List.set_cons_succ]
                first
                  | (refine wpAnyH_take (i := 17) (oi := ⟨_, _, _, _, _, _⟩) (v := undef) rfl (by kernel_rfl) (by kernel_rfl) (by kernel_rfl) (fun _ _ _ h => h) (Or.inr ⟨by rfl, rfl⟩) (by exact hH4) ?_)
                  | (refine wpAnyH_take (i := 17) (oi := ⟨_, _, _, _, _, _⟩) (v := ?_) rfl (by kernel_rfl) (by kernel_rfl) (by kernel_rfl) (fun _ _ _ h => h) (Or.inl ⟨by rfl, ?_⟩) (by exact hH4) ?_; rotate_left; (focus (intro x hx; (try dsimp only at hx); go_simp; try (with_reducible rfl))))
                try simp only [Act.put, List.setIfInBounds_toArray, List.set_cons_zero, List.set_cons_succ]
                first
                  | (refine wpAnyH_take (i := 18) (oi := ⟨_, _, _, _, _, _⟩) (v := undef) rfl (by kernel_rfl) (by kernel_rfl) (by kernel_rfl) (fun _ _ _ h => h) (Or.inr ⟨by rfl, rfl⟩) (by exact hH4) ?_)
                  | (refine wpAnyH_take (i := 18) (oi := ⟨_, _, _, _, _, _⟩) (v := ?_) rfl (by kernel_rfl) (by kernel_rfl) (by kernel_rfl) (fun _ _ _ h => h) (Or.inl ⟨by rfl, ?_⟩) (by exact hH4) ?_; rotate_left; (focus (intro x hx; (try dsimp only at hx); go_simp; try (with_reducible rfl))))
                try simp only [Act.put, List.setIfInBounds_toArray, List.set_cons_zero, List.set_cons_succ]
                first
                  | (refine wpAnyH_take (i := 19) (oi := ⟨_, _, _, _, _, _⟩) (v := undef) rfl (by kernel_rfl) (by kernel_rfl) (by kernel_rfl) (fun _ _ _ h => h) (Or.inr ⟨by rfl, rfl⟩) (by exact hH4) ?_)
                  | (refine wpAnyH_take (i := 19) (oi := ⟨_, _, _, _, _, _⟩) (v := ?_) rfl (by kernel_rfl) (by kernel_rfl) (by kernel_rfl) (fun _ _ _ h => h) (Or.inl ⟨by rfl, ?_⟩) (by exact hH4) ?_; rotate_left; (focus (intro x hx; (try dsimp only at hx); go_simp; try (with_reducible rfl))))
                try simp only [Act.put, List.setIfInBounds_toArray, List.set_cons_zero, List.set_cons_succ]
                first
                  | (refine wpAnyH_take (i := 20) (oi := ⟨_, _, _, _, _, _⟩) (v := undef) rfl (by kernel_rfl) (by kernel_rfl) (by kernel_rfl) (fun _ _ _ h => h) (Or.inr ⟨by rfl, rfl⟩) (by exact hH4) ?_)
                  | (refine wpAnyH_take (i := 20) (oi := ⟨_, _, _, _, _, _⟩) (v := ?_) rfl (by kernel_rfl) (by kernel_rfl) (by kernel_rfl) (fun _ _ _ h => h) (Or.inl ⟨by rfl, ?_⟩) (by exact hH4) ?_; rotate_left; (focus (intro x hx; (try dsimp only at hx); go_simp; try (with_reducible rfl))))
                try simp only [Act.put, List.setIfInBounds_toArray, List.set_cons_zero, List.set_cons_succ]
                first
                  | (refine wpAnyH_take (i := 21) (oi := ⟨_, _, _, _, _, _⟩) (v := undef) rfl (by kernel_rfl) (by kernel_rfl) (by kernel_rfl) (fun _ _ _ h => h) (Or.inr ⟨by rfl, rfl⟩) (by exact hH4) ?_)
                  | (refine wpAnyH_take (i := 21) (oi := ⟨_, _, _, _, _, _⟩) (v := ?_) rfl (by kernel_rfl) (by kernel_rfl) (by kernel_rfl) (fun _ _ _ h => h) (Or.inl ⟨by rfl, ?_⟩) (by exact hH4) ?_; rotate_left; (focus (intro x hx; (try dsimp only at hx); go_simp; try (with_reducible rfl))))
                try simp only [Act.put, List.setIfInBounds_toArray, List.set_cons_zero, List.set_cons_succ]
                first
                  | (refine wpAnyH_take (i := 22) (oi := ⟨_, _, _, _, _, _⟩) (v := undef) rfl (by kernel_rfl) (by kernel_rfl) (by kernel_rfl) (fun _ _ _ h => h) (Or.inr ⟨by rfl, rfl⟩) (by exact hH4) ?_)
                  | (refine wpAnyH_take (i := 22) (oi := ⟨_, _, _, _, _, _⟩) (v := ?_) rfl (by kernel_rfl) (by kernel_rfl) (by kernel_rfl) (fun _ _ _ h => h) (Or.inl ⟨by rfl, ?_⟩) (by exact hH4) ?_; rotate_left; (focus (intro x hx; (try dsimp only at hx); go_simp; try (with_reducible rfl))))
                try simp only [Act.put, List.setIfInBounds_toArray, List.set_cons_zero, List.set_cons_succ]
                first
                  | (refine wpAnyH_take (i := 23) (oi := ⟨_, _, _, _, _, _⟩) (v := undef) rfl (by kernel_rfl) (by kernel_rfl) (by kernel_rfl) (fun _ _ _ h => h) (Or.inr ⟨by rfl, rfl⟩) (by exact hH4) ?_)
                  | (refine wpAnyH_take (i := 23) (oi := ⟨_, _, _, _, _, _⟩) (v := ?_) rfl (by kernel_rfl) (by kernel_rfl) (by kernel_rfl) (fun _ _ _ h => h) (Or.inl ⟨by rfl, ?_⟩) (by exact hH4) ?_; rotate_left; (focus (intro x hx; (try dsimp only at hx); go_simp; try (with_reducible rfl))))
                try simp only [Act.put, List.setIfInBounds_toArray, List.set_cons_zero, List.set_cons_succ]
                first
                  | (refine wpAnyH_take (i := 24) (oi := ⟨_, _, _, _, _, _⟩) (v := undef) rfl (by kernel_rfl) (by kernel_rfl) (by kernel_rfl) (fun _ _ _ h => h) (Or.inr ⟨by rfl, rfl⟩) (by exact hH4) ?_)
                  | (refine wpAnyH_take (i := 24) (oi := ⟨_, _, _, _, _, _⟩) (v := ?_) rfl (by kernel_rfl) (by kernel_rfl) (by kernel_rfl) (fun _ _ _ h => h) (Or.inl ⟨by rfl, ?_⟩) (by exact hH4) ?_; rotate_left; (focus (intro x hx; (try dsimp only at hx); go_simp; try (with_reducible rfl))))
                try simp only [Act.put, List.setIfInBounds_toArray, List.set_cons_zero, List.set_cons_succ]
                first
                  | (refine wpAnyH_take (i := 25) (oi := ⟨_, _, _, _, _, _⟩) (v := undef) rfl (by kernel_rfl) (by kernel_rfl) (by kernel_rfl) (fun _ _ _ h => h) (Or.inr ⟨by rfl, rfl⟩) (by exact hH4) ?_)
                  | (refine wpAnyH_take (i := 25) (oi := ⟨_, _, _, _, _, _⟩) (v := ?_) rfl (by kernel_rfl) (by kernel_rfl) (by kernel_rfl) (fun _ _ _ h => h) (Or.inl ⟨by rfl, ?_⟩) (by exact hH4) ?_; rotate_left; (focus (intro x hx; (try dsimp only at hx); go_simp; try (with_reducible rfl))))
                try simp only [Act.put, List.setIfInBounds_toArray, List.set_cons_zero, List.set_cons_succ]
                first
                  | (refine wpAnyH_take (i := 26) (oi := ⟨_, _, _, _, _, _⟩) (v := undef) rfl (by kernel_rfl) (by kernel_rfl) (by kernel_rfl) (fun _ _ _ h => h) (Or.inr ⟨by rfl, rfl⟩) (by exact hH4) ?_)
                  | (refine wpAnyH_take (i := 26) (oi := ⟨_, _, _, _, _, _⟩) (v := ?_) rfl (by kernel_rfl) (by kernel_rfl) (by kernel_rfl) (fun _ _ _ h => h) (Or.inl ⟨by rfl, ?_⟩) (by exact hH4) ?_; rotate_left; (focus (intro x hx; (try dsimp only at hx); go_simp; try (with_reducible rfl))))
                try simp only [Act.put, List.setIfInBounds_toArray, List.set_cons_zero, List.set_cons_succ]
                first
                  | (refine wpAnyH_take (i := 27) (oi := ⟨_, _, _, _, _, _⟩) (v := undef) rfl (by kernel_rfl) (by kernel_rfl) (by kernel_rfl) (fun _ _ _ h => h) (Or.inr ⟨by rfl, rfl⟩) (by exact hH4) ?_)
                  | (refine wpAnyH_take (i := 27) (oi := ⟨_, _, _, _, _, _⟩) (v := ?_) rfl (by kernel_rfl) (by kernel_rfl) (by kernel_rfl) (fun _ _ _ h => h) (Or.inl ⟨by rfl, ?_⟩) (by exact hH4) ?_; rotate_left; (focus (intro x hx; (try dsimp only at hx); go_simp; try (with_reducible rfl))))
                try simp only [Act.put, List.setIfInBounds_toArray, List.set_cons_zero, List.set_cons_succ]
                first
                  | (refine wpAnyH_take (i := 28) (oi := ⟨_, _, _, _, _, _⟩) (v := undef) rfl (by kernel_rfl) (by kernel_rfl) (by kernel_rfl) (fun _ _ _ h => h) (Or.inr ⟨by rfl, rfl⟩) (by exact hH4) ?_)
                  | (refine wpAnyH_take (i := 28) (oi := ⟨_, _, _, _, _, _⟩) (v := ?_) rfl (by kernel_rfl) (by kernel_rfl) (by kernel_rfl) (fun _ _ _ h => h) (Or.inl ⟨by rfl, ?_⟩) (by exact hH4) ?_; rotate_left; (focus (intro x hx; (try dsimp only at hx); go_simp; try (with_reducible rfl))))
                try simp only [Act.put, List.setIfInBounds_toArray, List.set_cons_zero, List.set_cons_succ]
                first
                  | (refine wpAnyH_take (i := 29) (oi := ⟨_, _, _, _, _, _⟩) (v := undef) rfl (by kernel_rfl) (by kernel_rfl) (by kernel_rfl) (fun _ _ _ h => h) (Or.inr ⟨by rfl, rfl⟩) (by exact hH4) ?_)
                  | (refine wpAnyH_take (i := 29) (oi := ⟨_, _, _, _, _, _⟩) (v := ?_) rfl (by kernel_rfl) (by kernel_rfl) (by kernel_rfl) (fun _ _ _ h => h) (Or.inl ⟨by rfl, ?_⟩) (by exact hH4) ?_; rotate_left; (focus (intro x hx; (try dsimp only at hx); go_simp; try (with_reducible rfl))))
                try simp only [Act.put, List.setIfInBounds_toArray, List.set_cons_zero, List.set_cons_succ]
                first
                  | (refine wpAnyH_take (i := 30) (oi := ⟨_, _, _, _, _, _⟩) (v := undef) rfl (by kernel_rfl) (by kernel_rfl) (by kernel_rfl) (fun _ _ _ h => h) (Or.inr ⟨by rfl, rfl⟩) (by exact hH4) ?_)
                  | (refine wpAnyH_take (i := 30) (oi := ⟨_, _, _, _, _, _⟩) (v := ?_) rfl (by kernel_rfl) (by kernel_rfl) (by kernel_rfl) (fun _ _ _ h => h) (Or.inl ⟨by rfl, ?_⟩) (by exact hH4) ?_; rotate_left; (focus (intro x hx; (try dsimp only at hx); go_simp; try (with_reducible rfl))))
                try simp only [Act.put, List.setIfInBounds_toArray, List.set_cons_zero, List.set_cons_succ]
                refine wpAnyH_done (by kernel_rfl) ?_ _
                go_wp2_with fail
                go_meet
                case rel => exact ⟨by rw [HD.out, h1, h2, h3, decide_eq_false h4]; rfl, by repeat (first | with_reducible exact BC | with_reducible refine qDrew ?_ | with_reducible refine qAlloc ?_)⟩
      case rest =>
        obtain ⟨rfl, hbc⟩ := hcut
        obtain ⟨V2, hV2⟩ : ∃ V2 : World, V2 = wc := ⟨_, rfl⟩
        subst hV2
        have BV := hid hbc
        clear SA BC hbc
        cases hh : fpHeadB (fx, fy, code) (x, jl, fl, al)
        · go_wp2_with fail
          go_ret
          exact ⟨ret_bool (by unfold profB; rw [fpsB_not (q := q) (by have := LR.out; omega) (by rw [getD_of_at HX.out, HFN.out]; unfold fpB; rw [hh]; rfl)]; simp), kt (kt B3.out HB.out) (kt A6.out BV.out)⟩
        · have HH := hid hh
          go_wp2_with fail
          go_loopw [8] (fun j wr => ∃ m : Nat, m ≤ an ∧ j = .int .i64 m ∧ (al.take m).all apB = true ∧ Below U.heap.size U wr) (fun j _ => an - (intOf j).toNat)
          case atStart => exact ⟨0, Nat.zero_le _, rfl, rfl, BV.out⟩
          case round =>
            obtain ⟨m, hm, rfl, hal, hbu⟩ := hrel
            have HA := hid hal
            have BU := hid hbu
            have v3 := kept_cell hbu F6.out.c3
            clear hal hbu
            by_cases hmt : m < an
            · obtain ⟨b7, o7, y0, y1, y2, rfl, hy, e0, e1, e2⟩ := ap_at (J3.out.kept BU.out) m hmt
              have HY := hid hy
              have hm0 : (0 : Int) ≤ (m : Int) := by omega
              have hm1 : (m : Int) < (an : Int) := by omega
              have SA2 : Hid (∀ w', Below wr.heap.size wr w' → (w'.cell? ⟨V.heap.size, 3, none⟩ = some (.slice (some ⟨b7, o7, none⟩) an ac) ∧ w'.cell? ⟨b7, o7 + m * 3, none⟩ = some (.int .i64 y0) ∧ w'.cell? ⟨b7, o7 + m * 3 + 1, none⟩ = some (.int .i64 y1) ∧ w'.cell? ⟨b7, o7 + m * 3 + 2, none⟩ = some (.int .i64 y2))) := hid (fun w' b => ⟨kept_cell b v3, kept_cell b e0, kept_cell b e1, kept_cell b e2⟩)
              have BC2 : Below wr.heap.size wr wr := Below.refl _ _
              have NL2 : Hid (Ints ((wr.alloc (.cells #[.int .i64 y1, .int .i64 y2] 3)).drew) (some ⟨wr.heap.size, 0, none⟩) 2 2 [y1, y2]) := hid ((ints_lit9 wr [y1, y2] 3 (by simp)).kept (Below.drew (Below.refl _ _)))
              clear hy
              go_wp2_with fail
              clear v3 e0 e1 e2
              cases g1 : isNum y0
              · refine wp_region_held_drew (S := fun w' => w'.cell? ⟨V.heap.size, 3, none⟩ = some (.slice (some ⟨b7, o7, none⟩) an ac) ∧ w'.cell? ⟨b7, o7 + m * 3, none⟩ = some (.int .i64 y0) ∧ w'.cell? ⟨b7, o7 + m * 3 + 1, none⟩ = some (.int .i64 y1) ∧ w'.cell? ⟨b7, o7 + m * 3 + 2, none⟩ = some (.int .i64 y2)) (by kernel_rfl) ?_ (fun hH0 => ?_)
                · (try dsimp only); (refine SA2.out _ ?_; (repeat (first | with_reducible exact BC2 | with_reducible refine qDrew ?_ | with_reducible refine qAlloc ?_)))
                first
                  | (refine wpAnyH_take (i := 0) (oi := ⟨_, _, _, _, _, _⟩) (v := undef) rfl (by kernel_rfl) (by kernel_rfl) (by kernel_rfl) (fun _ _ _ h => h) (Or.inr ⟨by rfl, rfl⟩) (by exact hH0) ?_)
                  | (refine wpAnyH_take (i := 0) (oi := ⟨_, _, _, _, _, _⟩) (v := ?_) rfl (by kernel_rfl) (by kernel_rfl) (by kernel_rfl) (fun _ _ _ h => h) (Or.inl ⟨by rfl, ?_⟩) (by exact hH0) ?_; rotate_left; (focus (intro x hx; (try dsimp only at hx); go_simp; try (with_reducible rfl))))
                try simp only [Act.put, List.setIfInBounds_toArray, List.set_cons_zero, List.set_cons_succ]
                first
                  | (refine wpAnyH_take (i := 1) (oi := ⟨_, _, _, _, _, _⟩) (v := undef) rfl (by kernel_rfl) (by kernel_rfl) (by kernel_rfl) (fun _ _ _ h => h) (Or.inr ⟨by rfl, rfl⟩) (by exact hH0) ?_)
                  | (refine wpAnyH_take (i := 1) (oi := ⟨_, _, _, _, _, _⟩) (v := ?_) rfl (by kernel_rfl) (by kernel_rfl) (by kernel_rfl) (fun _ _ _ h => h) (Or.inl ⟨by rfl, ?_⟩) (by exact hH0) ?_; rotate_left; (focus (intro x hx; (try dsimp only at hx); go_simp; try (with_reducible rfl))))
                try simp only [Act.put, List.setIfInBounds_toArray, List.set_cons_zero, List.set_cons_succ]
                first
                  | (refine wpAnyH_take (i := 2) (oi := ⟨_, _, _, _, _, _⟩) (v := undef) rfl (by kernel_rfl) (by kernel_rfl) (by kernel_rfl) (fun _ _ _ h => h) (Or.inr ⟨by rfl, rfl⟩) (by exact hH0) ?_)
                  | (refine wpAnyH_take (i := 2) (oi := ⟨_, _, _, _, _, _⟩) (v := ?_) rfl (by kernel_rfl) (by kernel_rfl) (by kernel_rfl) (fun _ _ _ h => h) (Or.inl ⟨by rfl, ?_⟩) (by exact hH0) ?_; rotate_left; (focus (intro x hx; (try dsimp only at hx); go_simp; try (with_reducible rfl))))
                try simp only [Act.put, List.setIfInBounds_toArray, List.set_cons_zero, List.set_cons_succ]
                first
                  | (refine wpAnyH_take (i := 3) (oi := ⟨_, _, _, _, _, _⟩) (v := undef) rfl (by kernel_rfl) (by kernel_rfl) (by kernel_rfl) (fun _ _ _ h => h) (Or.inr ⟨by rfl, rfl⟩) (by exact hH0) ?_)
                  | (refine wpAnyH_take (i := 3) (oi := ⟨_, _, _, _, _, _⟩) (v := ?_) rfl (by kernel_rfl) (by kernel_rfl) (by kernel_rfl) (fun _ _ _ h => h) (Or.inl ⟨by rfl, ?_⟩) (by exact hH0) ?_; rotate_left; (focus (intro x hx; (try dsimp only at hx); go_simp; try (with_reducible rfl))))
                try simp only [Act.put, List.setIfInBounds_toArray, List.set_cons_zero, List.set_cons_succ]
                first
                  | (refine wpAnyH_take (i := 4) (oi := ⟨_, _, _, _, _, _⟩) (v := undef) rfl (by kernel_rfl) (by kernel_rfl) (by kernel_rfl) (fun _ _ _ h => h) (Or.inr ⟨by rfl, rfl⟩) (by exact hH0) ?_)
                  | (refine wpAnyH_take (i := 4) (oi := ⟨_, _, _, _, _, _⟩) (v := ?_) rfl (by kernel_rfl) (by kernel_rfl) (by kernel_rfl) (fun _ _ _ h => h) (Or.inl ⟨by rfl, ?_⟩) (by exact hH0) ?_; rotate_left; (focus (intro x hx; (try dsimp only at hx); go_simp; try (with_reducible rfl))))
                try simp only [Act.put, List.setIfInBounds_toArray, List.set_cons_zero, List.set_cons_succ]
                first
                  | (refine wpAnyH_take (i := 5) (oi := ⟨_, _, _, _, _, _⟩) (v := undef) rfl (by kernel_rfl) (by kernel_rfl) (by kernel_rfl) (fun _ _ _ h => h) (Or.inr ⟨by rfl, rfl⟩) (by exact hH0) ?_)
                  | (refine wpAnyH_take (i := 5) (oi := ⟨_, _, _, _, _, _⟩) (v := ?_) rfl (by kernel_rfl) (by kernel_rfl) (by kernel_rfl) (fun _ _ _ h => h) (Or.inl ⟨by rfl, ?_⟩) (by exact hH0) ?_; rotate_left; (focus (intro x hx; (try dsimp only at hx); go_simp; try (with_reducible rfl))))
                try simp only [Act.put, List.setIfInBounds_toArray, List.set_cons_zero, List.set_cons_succ]
                first
                  | (refine wpAnyH_take (i := 6) (oi := ⟨_, _, _, _, _, _⟩) (v := undef) rfl (by kernel_rfl) (by kernel_rfl) (by kernel_rfl) (fun _ _ _ h => h) (Or.inr ⟨by rfl, rfl⟩) (by exact hH0) ?_; have hH1 := hH0)
                  | (refine wpAnyH_ready (rs := [6]) (by kernel_rfl) (by simp) ?_; refine AllReadyH.cons (o := ⟨_, _, _, _, _, _⟩) rfl (fun K hK => ?_) ?_; rotate_left; (focus exact AllReadyH.nil); go_simp; go_at_call 35; refine (refNumber_any y0 _).mono ?_; rw [g1]; rintro e z1 ⟨rfl, hw⟩; rw [hw]; clear hw; refine hK.out _ _ ?_ (fun hH1 => ?_); (focus ((try dsimp only); (refine SA2.out _ ?_; (repeat (first | with_reducible exact BC2 | with_reducible refine qDrew ?_ | with_reducible refine qAlloc ?_))))); clear hK K)
                try simp only [Act.put, List.setIfInBounds_toArray, List.set_cons_zero, List.set_cons_succ]
                first
                  | (refine wpAnyH_take (i := 7) (oi := ⟨_, _, _, _, _, _⟩) (v := undef) rfl (by kernel_rfl) (by kernel_rfl) (by kernel_rfl) (fun _ _ _ h => h) (Or.inr ⟨by rfl, rfl⟩) (by exact hH1) ?_)
                  | (refine wpAnyH_take (i := 7) (oi := ⟨_, _, _, _, _, _⟩) (v := ?_) rfl (by kernel_rfl) (by kernel_rfl) (by kernel_rfl) (fun _ _ _ h => h) (Or.inl ⟨by rfl, ?_⟩) (by exact hH1) ?_; rotate_left; (focus (intro x hx; (try dsimp only at hx); go_simp; try (with_reducible rfl))))
                try simp only [Act.put, List.setIfInBounds_toArray, List.set_cons_zero, List.set_cons_succ]
                first
                  | (refine wpAnyH_take (i := 8) (oi := ⟨_, _, _, _, _, _⟩) (v := undef) rfl (by kernel_rfl) (by kernel_rfl) (by kernel_rfl) (fun _ _ _ h => h) (Or.inr ⟨by rfl, rfl⟩) (by exact hH1) ?_)
                  | (refine wpAnyH_take (i := 8) (oi := ⟨_, _, _, _, _, _⟩) (v := ?_) rfl (by kernel_rfl) (by kernel_rfl) (by kernel_rfl) (fun _ _ _ h => h) (Or.inl ⟨by rfl, ?_⟩) (by exact hH1) ?_; rotate_left; (focus (intro x hx; (try dsimp only at hx); go_simp; try (with_reducible rfl))))
                try simp only [Act.put, List.setIfInBounds_toArray, List.set_cons_zero, List.set_cons_succ]
                first
                  | (refine wpAnyH_take (i := 9) (oi := ⟨_, _, _, _, _, _⟩) (v := undef) rfl (by kernel_rfl) (by kernel_rfl) (by kernel_rfl) (fun _ _ _ h => h) (Or.inr ⟨by rfl, rfl⟩) (by exact hH1) ?_)
                  | (refine wpAnyH_take (i := 9) (oi := ⟨_, _, _, _, _, _⟩) (v := ?_) rfl (by kernel_rfl) (by kernel_rfl) (by kernel_rfl) (fun _ _ _ h => h) (Or.inl ⟨by rfl, ?_⟩) (by exact hH1) ?_; rotate_left; (focus (intro x hx; (try dsimp only at hx); go_simp; try (with_reducible rfl))))
                try simp only [Act.put, List.setIfInBounds_toArray, List.set_cons_zero, List.set_cons_succ]
                first
                  | (refine wpAnyH_take (i := 10) (oi := ⟨_, _, _, _, _, _⟩) (v := undef) rfl (by kernel_rfl) (by kernel_rfl) (by kernel_rfl) (fun _ _ _ h => h) (Or.inr ⟨by rfl, rfl⟩) (by exact hH1) ?_)
                  | (refine wpAnyH_take (i := 10) (oi := ⟨_, _, _, _, _, _⟩) (v := ?_) rfl (by kernel_rfl) (by kernel_rfl) (by kernel_rfl) (fun _ _ _ h => h) (Or.inl ⟨by rfl, ?_⟩) (by exact hH1) ?_; rotate_left; (focus (intro x hx; (try dsimp only at hx); go_simp; try (with_reducible rfl))))
                try simp only [Act.put, List.setIfInBounds_toArray, List.set_cons_zero, List.set_cons_succ]
                first
                  | (refine wpAnyH_take (i := 11) (oi := ⟨_, _, _, _, _, _⟩) (v := undef) rfl (by kernel_rfl) (by kernel_rfl) (by kernel_rfl) (fun _ _ _ h => h) (Or.inr ⟨by rfl, rfl⟩) (by exact hH1) ?_)
                  | (refine wpAnyH_take (i := 11) (oi := ⟨_, _, _, _, _, _⟩) (v := ?_) rfl (by kernel_rfl) (by kernel_rfl) (by kernel_rfl) (fun _ _ _ h => h) (Or.inl ⟨by rfl, ?_⟩) (by exact hH1) ?_; rotate_left; (focus (intro x hx; (try dsimp only at hx); go_simp; try (with_reducible rfl))))
                try simp only [Act.put, List.setIfInBounds_toArray, List.set_cons_zero, List.set_cons_succ]
                first
                  | (refine wpAnyH_take (i := 12) (oi := ⟨_, _, _, _, _, _⟩) (v := undef) rfl (by kernel_rfl) (by kernel_rfl) (by kernel_rfl) (fun _ _ _ h => h) (Or.inr ⟨by rfl, rfl⟩) (by exact hH1) ?_)
                  | (refine wpAnyH_take (i := 12) (oi := ⟨_, _, _, _, _, _⟩) (v := ?_) rfl (by kernel_rfl) (by kernel_rfl) (by kernel_rfl) (fun _ _ _ h => h) (Or.inl ⟨by rfl, ?_⟩) (by exact hH1) ?_; rotate_left; (focus (intro x hx; (try dsimp only at hx); go_simp; try (with_reducible rfl))))
                try simp only [Act.put, List.setIfInBounds_toArray, List.set_cons_zero, List.set_cons_succ]
                first
                  | (refine wpAnyH_take (i := 13) (oi := ⟨_, _, _, _, _, _⟩) (v := undef) rfl (by kernel_rfl) (by kernel_rfl) (by kernel_rfl) (fun _ _ _ h => h) (Or.inr ⟨by rfl, rfl⟩) (by exact hH1) ?_)
                  | (refine wpAnyH_take (i := 13) (oi := ⟨_, _, _, _, _, _⟩) (v := ?_) rfl (by kernel_rfl) (by kernel_rfl) (by kernel_rfl) (fun _ _ _ h => h) (Or.inl ⟨by rfl, ?_⟩) (by exact hH1) ?_; rotate_left; (focus (intro x hx; (try dsimp only at hx); go_simp; try (with_reducible rfl))))
                try simp only [Act.put, List.setIfInBounds_toArray, List.set_cons_zero, List.set_cons_succ]
                first
                  | (refine wpAnyH_take (i := 14) (oi := ⟨_, _, _, _, _, _⟩) (v := undef) rfl (by kernel_rfl) (by kernel_rfl) (by kernel_rfl) (fun _ _ _ h => h) (Or.inr ⟨by rfl, rfl⟩) (by exact hH1) ?_)
                  | (refine wpAnyH_take (i := 14) (oi := ⟨_, _, _, _, _, _⟩) (v := ?_) rfl (by kernel_rfl) (by kernel_rfl) (by kernel_rfl) (fun _ _ _ h => h) (Or.inl ⟨by rfl, ?_⟩) (by exact hH1) ?_; rotate_left; (focus (intro x hx; (try dsimp only at hx); go_simp; try (with_reducible rfl))))
                try simp only [Act.put, List.setIfInBounds_toArray, List.set_cons_zero, List.set_cons_succ]
                first
                  | (refine wpAnyH_take (i := 15) (oi := ⟨_, _, _, _, _, _⟩) (v := undef) rfl (by kernel_rfl) (by kernel_rfl) (by kernel_rfl) (fun _ _ _ h => h) (Or.inr ⟨by rfl, rfl⟩) (by exact hH1) ?_)
                  | (refine wpAnyH_take (i := 15) (oi := ⟨_, _, _, _, _, _⟩) (v := ?_) rfl (by kernel_rfl) (by kernel_rfl) (by kernel_rfl) (fun _ _ _ h => h) (Or.inl ⟨by rfl, ?_⟩) (by exact hH1) ?_; rotate_left; (focus (intro x hx; (try dsimp only at hx); go_simp; try (with_reducible rfl))))
                try simp only [Act.put, List.setIfInBounds_toArray, List.set_cons_zero, List.set_cons_succ]
                first
                  | (refine wpAnyH_take (i := 16) (oi := ⟨_, _, _, _, _, _⟩) (v := undef) rfl (by kernel_rfl) (by kernel_rfl) (by kernel_rfl) (fun _ _ _ h => h) (Or.inr ⟨by rfl, rfl⟩) (by exact hH1) ?_)
                  | (refine wpAnyH_take (i := 16) (oi := ⟨_, _, _, _, _, _⟩) (v := ?_) rfl (by kernel_rfl) (by kernel_rfl) (by kernel_rfl) (fun _ _ _ h => h) (Or.inl ⟨by rfl, ?_⟩) (by exact hH1) ?_; rotate_left; (focus (intro x hx; (try dsimp only at hx); go_simp; try (with_reducible rfl))))
                try simp only [Act.put, List.setIfInBounds_toArray, List.set_cons_zero, List.set_cons_succ]
                first
                  | (refine wpAnyH_take (i := 17) (oi := ⟨_, _, _, _, _, _⟩) (v := undef) rfl (by kernel_rfl) (by kernel_rfl) (by kernel_rfl) (fun _ _ _ h => h) (Or.inr ⟨by rfl, rfl⟩) (by exact hH1) ?_)
                  | (refine wpAnyH_take (i := 17) (oi := ⟨_, _, _, _, _, _⟩) (v := ?_) rfl (by kernel_rfl) (by kernel_rfl) (by kernel_rfl) (fun _ _ _ h => h) (Or.inl ⟨by rfl, ?_⟩) (by exact hH1) ?_; rotate_left; (focus (intro x hx; (try dsimp only at hx); go_simp; try (with_reducible rfl))))
                try simp only [Act.put, List.setIfInBounds_toArray, List.set_cons_zero, List.set_cons_succ]
                first
                  | (refine wpAnyH_take (i := 18) (oi := ⟨_, _, _, _, _, _⟩) (v := undef) rfl (by kernel_rfl) (by kernel_rfl) (by kernel_rfl) (fun _ _ _ h => h) (Or.inr ⟨by rfl, rfl⟩) (by exact hH1) ?_)
                  | (refine wpAnyH_take (i := 18) (oi := ⟨_, _, _, _, _, _⟩) (v := ?_) rfl (by kernel_rfl) (by kernel_rfl) (by kernel_rfl) (fun _ _ _ h => h) (Or.inl ⟨by rfl, ?_⟩) (by exact hH1) ?_; rotate_left; (focus (intro x hx; (try dsimp only at hx); go_simp; try (with_reducible rfl))))
                try simp only [Act.put, List.setIfInBounds_toArray, List.set_cons_zero, List.set_cons_succ]
                first
                  | (refine wpAnyH_take (i := 19) (oi := ⟨_, _, _, _, _, _⟩) (v := undef) rfl (by kernel_rfl) (by kernel_rfl) (by kernel_rfl) (fun _ _ _ h => h) (Or.inr ⟨by rfl, rfl⟩) (by exact hH1) ?_)
                  | (refine wpAnyH_take (i := 19) (oi := ⟨_, _, _, _, _, _⟩) (v := ?_) rfl (by kernel_rfl) (by kernel_rfl) (by kernel_rfl) (fun _ _ _ h => h) (Or.inl ⟨by rfl, ?_⟩) (by exact hH1) ?_; rotate_left; (focus (intro x hx; (try dsimp only at hx); go_simp; try (with_reducible rfl))))
                try simp only [Act.put, List.setIfInBounds_toArray, List.set_cons_zero, List.set_cons_succ]
                first
                  | (refine wpAnyH_take (i := 20) (oi := ⟨_, _, _, _, _, _⟩) (v := undef) rfl (by kernel_rfl) (by kernel_rfl) (by kernel_rfl) (fun _ _ _ h => h) (Or.inr ⟨by rfl, rfl⟩) (by exact hH1) ?_)
                  | (refine wpAnyH_take (i := 20) (oi := ⟨_, _, _, _, _, _⟩) (v := ?_) rfl (by kernel_rfl) (by kernel_rfl) (by kernel_rfl) (fun _ _ _ h => h) (Or.inl ⟨by rfl, ?_⟩) (by exact hH1) ?_; rotate_left; (focus (intro x hx; (try dsimp only at hx); go_simp; try (with_reducible rfl))))
                try simp only [Act.put, List.setIfInBounds_toArray, List.set_cons_zero, List.set_cons_succ]
                first
                  | (refine wpAnyH_take (i := 21) (oi := ⟨_, _, _, _, _, _⟩) (v := undef) rfl (by kernel_rfl) (by kernel_rfl) (by kernel_rfl) (fun _ _ _ h => h) (Or.inr ⟨by rfl, rfl⟩) (by exact hH1) ?_; have hH2 := hH1)
                  | (refine wpAnyH_ready (rs := [21]) (by kernel_rfl) (by simp) ?_; refine AllReadyH.cons (o := ⟨_, _, _, _, _, _⟩) rfl (fun K hK => ?_) ?_; rotate_left; (focus exact AllReadyH.nil); go_simp; refine hK.out _ _ ?_ (fun hH2 => ?_); (focus ((try dsimp only); (refine SA2.out _ ?_; (repeat (first | with_reducible exact BC2 | with_reducible refine qDrew ?_ | with_reducible refine qAlloc ?_))))); clear hK K)
                try simp only [Act.put, List.setIfInBounds_toArray, List.set_cons_zero, List.set_cons_succ]
                first
                  | (refine wpAnyH_take (i := 22) (oi := ⟨_, _, _, _, _, _⟩) (v := undef) rfl (by kernel_rfl) (by kernel_rfl) (by kernel_rfl) (fun _ _ _ h => h) (Or.inr ⟨by rfl, rfl⟩) (by exact hH2) ?_; have hH3 := hH2)
                  | (refine wpAnyH_ready (rs := [22]) (by kernel_rfl) (by simp) ?_; refine AllReadyH.cons (o := ⟨_, _, _, _, _, _⟩) rfl (fun K hK => ?_) ?_; rotate_left; (focus exact AllReadyH.nil); go_simp; go_at_call 34; refine (refCounts_any _ 2 2 [y1, y2] 2 _ NL2.out).mono ?_; rintro e z1 ⟨rfl, hw⟩; rw [hw]; clear hw; refine hK.out _ _ ?_ (fun hH3 => ?_); (focus ((try dsimp only); (refine SA2.out _ ?_; (repeat (first | with_reducible exact BC2 | with_reducible refine qDrew ?_ | with_reducible refine qAlloc ?_))))); clear hK K)
                try simp only [Act.put, List.setIfInBounds_toArray, List.set_cons_zero, List.set_cons_succ]
                first
                  | (refine wpAnyH_take (i := 23) (oi := ⟨_, _, _, _, _, _⟩) (v := undef) rfl (by kernel_rfl) (by kernel_rfl) (by kernel_rfl) (fun _ _ _ h => h) (Or.inr ⟨by rfl, rfl⟩) (by exact hH3) ?_)
                  | (refine wpAnyH_take (i := 23) (oi := ⟨_, _, _, _, _, _⟩) (v := ?_) rfl (by kernel_rfl) (by kernel_rfl) (by kernel_rfl) (fun _ _ _ h => h) (Or.inl ⟨by rfl, ?_⟩) (by exact hH3) ?_; rotate_left; (focus (intro x hx; (try dsimp only at hx); go_simp; try (with_reducible rfl))))
                try simp only [Act.put, List.setIfInBounds_toArray, List.set_cons_zero, List.set_cons_succ]
                first
                  | (refine wpAnyH_take (i := 24) (oi := ⟨_, _, _, _, _, _⟩) (v := undef) rfl (by kernel_rfl) (by kernel_rfl) (by kernel_rfl) (fun _ _ _ h => h) (Or.inr ⟨by rfl, rfl⟩) (by exact hH3) ?_)
                  | (refine wpAnyH_take (i := 24) (oi := ⟨_, _, _, _, _, _⟩) (v := ?_) rfl (by kernel_rfl) (by kernel_rfl) (by kernel_rfl) (fun _ _ _ h => h) (Or.inl ⟨by rfl, ?_⟩) (by exact hH3) ?_; rotate_left; (focus (intro x hx; (try dsimp only at hx); go_simp; try (with_reducible rfl))))
                try simp only [Act.put, List.setIfInBounds_toArray, List.set_cons_zero, List.set_cons_succ]
                refine wpAnyH_done (by kernel_rfl) ?_ _
                go_wp2_with fail
                go_ret
                exact ⟨ret_bool (by unfold profB; rw [fpsB_not (q := q) (by have := LR.out; omega) (by rw [getD_of_at HX.out, HFN.out]; unfold fpB; rw [allP_not HY.out (by unfold apB; simp [g1])]; simp)]; simp), kt (kt (kt B3.out HB.out) (kt A6.out BU.out)) (by repeat (first | with_reducible exact BC2 | with_reducible refine qDrew ?_ | with_reducible refine qAlloc ?_))⟩
              · cases g2 : cntsB [y1, y2] 2
                · refine wp_region_held_drew (S := fun w' => w'.cell? ⟨V.heap.size, 3, none⟩ = some (.slice (some ⟨b7, o7, none⟩) an ac) ∧ w'.cell? ⟨b7, o7 + m * 3, none⟩ = some (.int .i64 y0) ∧ w'.cell? ⟨b7, o7 + m * 3 + 1, none⟩ = some (.int .i64 y1) ∧ w'.cell? ⟨b7, o7 + m * 3 + 2, none⟩ = some (.int .i64 y2)) (by kernel_rfl) ?_ (fun hH0 => ?_)
                  · (try dsimp only); (refine SA2.out _ ?_; (repeat (first | with_reducible exact BC2 | with_reducible refine qDrew ?_ | with_reducible refine qAlloc ?_)))
                  first
                    | (refine wpAnyH_take (i := 0) (oi := ⟨_, _, _, _, _, _⟩) (v := undef) rfl (by kernel_rfl) (by kernel_rfl) (by kernel_rfl) (fun _ _ _ h => h) (Or.inr ⟨by rfl, rfl⟩) (by exact hH0) ?_)
                    | (refine wpAnyH_take (i := 0) (oi := ⟨_, _, _, _, _, _⟩) (v := ?_) rfl (by kernel_rfl) (by kernel_rfl) (by kernel_rfl) (fun _ _ _ h => h) (Or.inl ⟨by rfl, ?_⟩) (by exact hH0) ?_; rotate_left; (focus (intro x hx; (try dsimp only at hx); go_simp; try (with_reducible rfl))))
                  try simp only [Act.put, List.setIfInBounds_toArray, List.set_cons_zero, List.set_cons_succ]
                  first
                    | (refine wpAnyH_take (i := 1) (oi := ⟨_, _, _, _, _, _⟩) (v := undef) rfl (by kernel_rfl) (by kernel_rfl) (by kernel_rfl) (fun _ _ _ h => h) (Or.inr ⟨by rfl, rfl⟩) (by exact hH0) ?_)
                    | (refine wpAnyH_take (i := 1) (oi := ⟨_, _, _, _, _, _⟩) (v := ?_) rfl (by kernel_rfl) (by kernel_rfl) (by kernel_rfl) (fun _ _ _ h => h) (Or.inl ⟨by rfl, ?_⟩) (by exact hH0) ?_; rotate_left; (focus (intro x hx; (try dsimp only at hx); go_simp; try (with_reducible rfl))))
                  try simp only [Act.put, List.setIfInBounds_toArray, List.set_cons_zero, List.set_cons_succ]
                  first
                    | (refine wpAnyH_take (i := 2) (oi := ⟨_, _, _, _, _, _⟩) (v := undef) rfl (by kernel_rfl) (by kernel_rfl) (by kernel_rfl) (fun _ _ _ h => h) (Or.inr ⟨by rfl, rfl⟩) (by exact hH0) ?_)
                    | (refine wpAnyH_take (i := 2) (oi := ⟨_, _, _, _, _, _⟩) (v := ?_) rfl (by kernel_rfl) (by kernel_rfl) (by kernel_rfl) (fun _ _ _ h => h) (Or.inl ⟨by rfl, ?_⟩) (by exact hH0) ?_; rotate_left; (focus (intro x hx; (try dsimp only at hx); go_simp; try (with_reducible rfl))))
                  try simp only [Act.put, List.setIfInBounds_toArray, List.set_cons_zero, List.set_cons_succ]
                  first
                    | (refine wpAnyH_take (i := 3) (oi := ⟨_, _, _, _, _, _⟩) (v := undef) rfl (by kernel_rfl) (by kernel_rfl) (by kernel_rfl) (fun _ _ _ h => h) (Or.inr ⟨by rfl, rfl⟩) (by exact hH0) ?_)
                    | (refine wpAnyH_take (i := 3) (oi := ⟨_, _, _, _, _, _⟩) (v := ?_) rfl (by kernel_rfl) (by kernel_rfl) (by kernel_rfl) (fun _ _ _ h => h) (Or.inl ⟨by rfl, ?_⟩) (by exact hH0) ?_; rotate_left; (focus (intro x hx; (try dsimp only at hx); go_simp; try (with_reducible rfl))))
                  try simp only [Act.put, List.setIfInBounds_toArray, List.set_cons_zero, List.set_cons_succ]
                  first
                    | (refine wpAnyH_take (i := 4) (oi := ⟨_, _, _, _, _, _⟩) (v := undef) rfl (by kernel_rfl) (by kernel_rfl) (by kernel_rfl) (fun _ _ _ h => h) (Or.inr ⟨by rfl, rfl⟩) (by exact hH0) ?_)
                    | (refine wpAnyH_take (i := 4) (oi := ⟨_, _, _, _, _, _⟩) (v := ?_) rfl (by kernel_rfl) (by kernel_rfl) (by kernel_rfl) (fun _ _ _ h => h) (Or.inl ⟨by rfl, ?_⟩) (by exact hH0) ?_; rotate_left; (focus (intro x hx; (try dsimp only at hx); go_simp; try (with_reducible rfl))))
                  try simp only [Act.put, List.setIfInBounds_toArray, List.set_cons_zero, List.set_cons_succ]
                  first
                    | (refine wpAnyH_take (i := 5) (oi := ⟨_, _, _, _, _, _⟩) (v := undef) rfl (by kernel_rfl) (by kernel_rfl) (by kernel_rfl) (fun _ _ _ h => h) (Or.inr ⟨by rfl, rfl⟩) (by exact hH0) ?_)
                    | (refine wpAnyH_take (i := 5) (oi := ⟨_, _, _, _, _, _⟩) (v := ?_) rfl (by kernel_rfl) (by kernel_rfl) (by kernel_rfl) (fun _ _ _ h => h) (Or.inl ⟨by rfl, ?_⟩) (by exact hH0) ?_; rotate_left; (focus (intro x hx; (try dsimp only at hx); go_simp; try (with_reducible rfl))))
                  try simp only [Act.put, List.setIfInBounds_toArray, List.set_cons_zero, List.set_cons_succ]
                  first
                    | (refine wpAnyH_take (i := 6) (oi := ⟨_, _, _, _, _, _⟩) (v := undef) rfl (by kernel_rfl) (by kernel_rfl) (by kernel_rfl) (fun _ _ _ h => h) (Or.inr ⟨by rfl, rfl⟩) (by exact hH0) ?_; have hH1 := hH0)
                    | (refine wpAnyH_ready (rs := [6]) (by kernel_rfl) (by simp) ?_; refine AllReadyH.cons (o := ⟨_, _, _, _, _, _⟩) rfl (fun K hK => ?_) ?_; rotate_left; (focus exact AllReadyH.nil); go_simp; go_at_call 35; refine (refNumber_any y0 _).mono ?_; rw [g1]; rintro e z1 ⟨rfl, hw⟩; rw [hw]; clear hw; refine hK.out _ _ ?_ (fun hH1 => ?_); (focus ((try dsimp only); (refine SA2.out _ ?_; (repeat (first | with_reducible exact BC2 | with_reducible refine qDrew ?_ | with_reducible refine qAlloc ?_))))); clear hK K)
                  try simp only [Act.put, List.setIfInBounds_toArray, List.set_cons_zero, List.set_cons_succ]
                  first
                    | (refine wpAnyH_take (i := 7) (oi := ⟨_, _, _, _, _, _⟩) (v := undef) rfl (by kernel_rfl) (by kernel_rfl) (by kernel_rfl) (fun _ _ _ h => h) (Or.inr ⟨by rfl, rfl⟩) (by exact hH1) ?_)
                    | (refine wpAnyH_take (i := 7) (oi := ⟨_, _, _, _, _, _⟩) (v := ?_) rfl (by kernel_rfl) (by kernel_rfl) (by kernel_rfl) (fun _ _ _ h => h) (Or.inl ⟨by rfl, ?_⟩) (by exact hH1) ?_; rotate_left; (focus (intro x hx; (try dsimp only at hx); go_simp; try (with_reducible rfl))))
                  try simp only [Act.put, List.setIfInBounds_toArray, List.set_cons_zero, List.set_cons_succ]
                  first
                    | (refine wpAnyH_take (i := 8) (oi := ⟨_, _, _, _, _, _⟩) (v := undef) rfl (by kernel_rfl) (by kernel_rfl) (by kernel_rfl) (fun _ _ _ h => h) (Or.inr ⟨by rfl, rfl⟩) (by exact hH1) ?_)
                    | (refine wpAnyH_take (i := 8) (oi := ⟨_, _, _, _, _, _⟩) (v := ?_) rfl (by kernel_rfl) (by kernel_rfl) (by kernel_rfl) (fun _ _ _ h => h) (Or.inl ⟨by rfl, ?_⟩) (by exact hH1) ?_; rotate_left; (focus (intro x hx; (try dsimp only at hx); go_simp; try (with_reducible rfl))))
                  try simp only [Act.put, List.setIfInBounds_toArray, List.set_cons_zero, List.set_cons_succ]
                  first
                    | (refine wpAnyH_take (i := 9) (oi := ⟨_, _, _, _, _, _⟩) (v := undef) rfl (by kernel_rfl) (by kernel_rfl) (by kernel_rfl) (fun _ _ _ h => h) (Or.inr ⟨by rfl, rfl⟩) (by exact hH1) ?_)
                    | (refine wpAnyH_take (i := 9) (oi := ⟨_, _, _, _, _, _⟩) (v := ?_) rfl (by kernel_rfl) (by kernel_rfl) (by kernel_rfl) (fun _ _ _ h => h) (Or.inl ⟨by rfl, ?_⟩) (by exact hH1) ?_; rotate_left; (focus (intro x hx; (try dsimp only at hx); go_simp; try (with_reducible rfl))))
                  try simp only [Act.put, List.setIfInBounds_toArray, List.set_cons_zero, List.set_cons_succ]
                  first
                    | (refine wpAnyH_take (i := 10) (oi := ⟨_, _, _, _, _, _⟩) (v := undef) rfl (by kernel_rfl) (by kernel_rfl) (by kernel_rfl) (fun _ _ _ h => h) (Or.inr ⟨by rfl, rfl⟩) (by exact hH1) ?_)
                    | (refine wpAnyH_take (i := 10) (oi := ⟨_, _, _, _, _, _⟩) (v := ?_) rfl (by kernel_rfl) (by kernel_rfl) (by kernel_rfl) (fun _ _ _ h => h) (Or.inl ⟨by rfl, ?_⟩) (by exact hH1) ?_; rotate_left; (focus (intro x hx; (try dsimp only at hx); go_simp; try (with_reducible rfl))))
                  try simp only [Act.put, List.setIfInBounds_toArray, List.set_cons_zero, List.set_cons_succ]
                  first
                    | (refine wpAnyH_take (i := 11) (oi := ⟨_, _, _, _, _, _⟩) (v := undef) rfl (by kernel_rfl) (by kernel_rfl) (by kernel_rfl) (fun _ _ _ h => h) (Or.inr ⟨by rfl, rfl⟩) (by exact hH1) ?_)
                    | (refine wpAnyH_take (i := 11) (oi := ⟨_, _, _, _, _, _⟩) (v := ?_) rfl (by kernel_rfl) (by kernel_rfl) (by kernel_rfl) (fun _ _ _ h => h) (Or.inl ⟨by rfl, ?_⟩) (by exact hH1) ?_; rotate_left; (focus (intro x hx; (try dsimp only at hx); go_simp; try (with_reducible rfl))))
                  try simp only [Act.put, List.setIfInBounds_toArray, List.set_cons_zero, List.set_cons_succ]
                  first
                    | (refine wpAnyH_take (i := 12) (oi := ⟨_, _, _, _, _, _⟩) (v := undef) rfl (by kernel_rfl) (by kernel_rfl) (by kernel_rfl) (fun _ _ _ h => h) (Or.inr ⟨by rfl, rfl⟩) (by exact hH1) ?_)
                    | (refine wpAnyH_take (i := 12) (oi := ⟨_, _, _, _, _, _⟩) (v := ?_) rfl (by kernel_rfl) (by kernel_rfl) (by kernel_rfl) (fun _ _ _ h => h) (Or.inl ⟨by rfl, ?_⟩) (by exact hH1) ?_; rotate_left; (focus (intro x hx; (try dsimp only at hx); go_simp; try (with_reducible rfl))))
                  try simp only [Act.put, List.setIfInBounds_toArray, List.set_cons_zero, List.set_cons_succ]
                  first
                    | (refine wpAnyH_take (i := 13) (oi := ⟨_, _, _, _, _, _⟩) (v := undef) rfl (by kernel_rfl) (by kernel_rfl) (by kernel_rfl) (fun _ _ _ h => h) (Or.inr ⟨by rfl, rfl⟩) (by exact hH1) ?_)
                    | (refine wpAnyH_take (i := 13) (oi := ⟨_, _, _, _, _, _⟩) (v := ?_) rfl (by kernel_rfl) (by kernel_rfl) (by kernel_rfl) (fun _ _ _ h => h) (Or.inl ⟨by rfl, ?_⟩) (by exact hH1) ?_; rotate_left; (focus (intro x hx; (try dsimp only at hx); go_simp; try (with_reducible rfl))))
                  try simp only [Act.put, List.setIfInBounds_toArray, List.set_cons_zero, List.set_cons_succ]
                  first
                    | (refine wpAnyH_take (i := 14) (oi := ⟨_, _, _, _, _, _⟩) (v := undef) rfl (by kernel_rfl) (by kernel_rfl) (by kernel_rfl) (fun _ _ _ h => h) (Or.inr ⟨by rfl, rfl⟩) (by exact hH1) ?_)
                    | (refine wpAnyH_take (i := 14) (oi := ⟨_, _, _, _, _, _⟩) (v := ?_) rfl (by kernel_rfl) (by kernel_rfl) (by kernel_rfl) (fun _ _ _ h => h) (Or.inl ⟨by rfl, ?_⟩) (by exact hH1) ?_; rotate_left; (focus (intro x hx; (try dsimp only at hx); go_simp; try (with_reducible rfl))))
                  try simp only [Act.put, List.setIfInBounds_toArray, List.set_cons_zero, List.set_cons_succ]
                  first
                    | (refine wpAnyH_take (i := 15) (oi := ⟨_, _, _, _, _, _⟩) (v := undef) rfl (by kernel_rfl) (by kernel_rfl) (by kernel_rfl) (fun _ _ _ h => h) (Or.inr ⟨by rfl, rfl⟩) (by exact hH1) ?_)
                    | (refine wpAnyH_take (i := 15) (oi := ⟨_, _, _, _, _, _⟩) (v := ?_) rfl (by kernel_rfl) (by kernel_rfl) (by kernel_rfl) (fun _ _ _ h => h) (Or.inl ⟨by rfl, ?_⟩) (by exact hH1) ?_; rotate_left; (focus (intro x hx; (try dsimp only at hx); go_simp; try (with_reducible rfl))))
                  try simp only [Act.put, List.setIfInBounds_toArray, List.set_cons_zero, List.set_cons_succ]
                  first
                    | (refine wpAnyH_take (i := 16) (oi := ⟨_, _, _, _, _, _⟩) (v := undef) rfl (by kernel_rfl) (by kernel_rfl) (by kernel_rfl) (fun _ _ _ h => h) (Or.inr ⟨by rfl, rfl⟩) (by exact hH1) ?_)
                    | (refine wpAnyH_take (i := 16) (oi := ⟨_, _, _, _, _, _⟩) (v := ?_) rfl (by kernel_rfl) (by kernel_rfl) (by kernel_rfl) (fun _ _ _ h => h) (Or.inl ⟨by rfl, ?_⟩) (by exact hH1) ?_; rotate_left; (focus (intro x hx; (try dsimp only at hx); go_simp; try (with_reducible rfl))))
                  try simp only [Act.put, List.setIfInBounds_toArray, List.set_cons_zero, List.set_cons_succ]
                  first
                    | (refine wpAnyH_take (i := 17) (oi := ⟨_, _, _, _, _, _⟩) (v := undef) rfl (by kernel_rfl) (by kernel_rfl) (by kernel_rfl) (fun _ _ _ h => h) (Or.inr ⟨by rfl, rfl⟩) (by exact hH1) ?_)
                    | (refine wpAnyH_take (i := 17) (oi := ⟨_, _, _, _, _, _⟩) (v := ?_) rfl (by kernel_rfl) (by kernel_rfl) (by kernel_rfl) (fun _ _ _ h => h) (Or.inl ⟨by rfl, ?_⟩) (by exact hH1) ?_; rotate_left; (focus (intro x hx; (try dsimp only at hx); go_simp; try (with_reducible rfl))))
                  try simp only [Act.put, List.setIfInBounds_toArray, List.set_cons_zero, List.set_cons_succ]
                  first
                    | (refine wpAnyH_take (i := 18) (oi := ⟨_, _, _, _, _, _⟩) (v := undef) rfl (by kernel_rfl) (by kernel_rfl) (by kernel_rfl) (fun _ _ _ h => h) (Or.inr ⟨by rfl, rfl⟩) (by exact hH1) ?_)
                    | (refine wpAnyH_take (i := 18) (oi := ⟨_, _, _, _, _, _⟩) (v := ?_) rfl (by kernel_rfl) (by kernel_rfl) (by kernel_rfl) (fun _ _ _ h => h) (Or.inl ⟨by rfl, ?_⟩) (by exact hH1) ?_; rotate_left; (focus (intro x hx; (try dsimp only at hx); go_simp; try (with_reducible rfl))))
                  try simp only [Act.put, List.setIfInBounds_toArray, List.set_cons_zero, List.set_cons_succ]
                  first
                    | (refine wpAnyH_take (i := 19) (oi := ⟨_, _, _, _, _, _⟩) (v := undef) rfl (by kernel_rfl) (by kernel_rfl) (by kernel_rfl) (fun _ _ _ h => h) (Or.inr ⟨by rfl, rfl⟩) (by exact hH1) ?_)
                    | (refine wpAnyH_take (i := 19) (oi := ⟨_, _, _, _, _, _⟩) (v := ?_) rfl (by kernel_rfl) (by kernel_rfl) (by kernel_rfl) (fun _ _ _ h => h) (Or.inl ⟨by rfl, ?_⟩) (by exact hH1) ?_; rotate_left; (focus (intro x hx; (try dsimp only at hx); go_simp; try (with_reducible rfl))))
                  try simp only [Act.put, List.setIfInBounds_toArray, List.set_cons_zero, List.set_cons_succ]
                  first
                    | (refine wpAnyH_take (i := 20) (oi := ⟨_, _, _, _, _, _⟩) (v := undef) rfl (by kernel_rfl) (by kernel_rfl) (by kernel_rfl) (fun _ _ _ h => h) (Or.inr ⟨by rfl, rfl⟩) (by exact hH1) ?_)
                    | (refine wpAnyH_take (i := 20) (oi := ⟨_, _, _, _, _, _⟩) (v := ?_) rfl (by kernel_rfl) (by kernel_rfl) (by kernel_rfl) (fun _ _ _ h => h) (Or.inl ⟨by rfl, ?_⟩) (by exact hH1) ?_; rotate_left; (focus (intro x hx; (try dsimp only at hx); go_simp; try (with_reducible rfl))))
                  try simp only [Act.put, List.setIfInBounds_toArray, List.set_cons_zero, List.set_cons_succ]
                  first
                    | (refine wpAnyH_take (i := 21) (oi := ⟨_, _, _, _, _, _⟩) (v := undef) rfl (by kernel_rfl) (by kernel_rfl) (by kernel_rfl) (fun _ _ _ h => h) (Or.inr ⟨by rfl, rfl⟩) (by exact hH1) ?_; have hH2 := hH1)
                    | (refine wpAnyH_ready (rs := [21]) (by kernel_rfl) (by simp) ?_; refine AllReadyH.cons (o := ⟨_, _, _, _, _, _⟩) rfl (fun K hK => ?_) ?_; rotate_left; (focus exact AllReadyH.nil); go_simp; refine hK.out _ _ ?_ (fun hH2 => ?_); (focus ((try dsimp only); (refine SA2.out _ ?_; (repeat (first | with_reducible exact BC2 | with_reducible refine qDrew ?_ | with_reducible refine qAlloc ?_))))); clear hK K)
                  try simp only [Act.put, List.setIfInBounds_toArray, List.set_cons_zero, List.set_cons_succ]
                  first
                    | (refine wpAnyH_take (i := 22) (oi := ⟨_, _, _, _, _, _⟩) (v := undef) rfl (by kernel_rfl) (by kernel_rfl) (by kernel_rfl) (fun _ _ _ h => h) (Or.inr ⟨by rfl, rfl⟩) (by exact hH2) ?_; have hH3 := hH2)
                    | (refine wpAnyH_ready (rs := [22]) (by kernel_rfl) (by simp) ?_; refine AllReadyH.cons (o := ⟨_, _, _, _, _, _⟩) rfl (fun K hK => ?_) ?_; rotate_left; (focus exact AllReadyH.nil); go_simp; go_at_call 34; refine (refCounts_any _ 2 2 [y1, y2] 2 _ NL2.out).mono ?_; rw [g2]; rintro e z1 ⟨rfl, hw⟩; rw [hw]; clear hw; refine hK.out _ _ ?_ (fun hH3 => ?_); (focus ((try dsimp only); (refine SA2.out _ ?_; (repeat (first | with_reducible exact BC2 | with_reducible refine qDrew ?_ | with_reducible refine qAlloc ?_))))); clear hK K)
                  try simp only [Act.put, List.setIfInBounds_toArray, List.set_cons_zero, List.set_cons_succ]
                  first
                    | (refine wpAnyH_take (i := 23) (oi := ⟨_, _, _, _, _, _⟩) (v := undef) rfl (by kernel_rfl) (by kernel_rfl) (by kernel_rfl) (fun _ _ _ h => h) (Or.inr ⟨by rfl, rfl⟩) (by exact hH3) ?_)
                    | (refine wpAnyH_take (i := 23) (oi := ⟨_, _, _, _, _, _⟩) (v := ?_) rfl (by kernel_rfl) (by kernel_rfl) (by kernel_rfl) (fun _ _ _ h => h) (Or.inl ⟨by rfl, ?_⟩) (by exact hH3) ?_; rotate_left; (focus (intro x hx; (try dsimp only at hx); go_simp; try (with_reducible rfl))))
                  try simp only [Act.put, List.setIfInBounds_toArray, List.set_cons_zero, List.set_cons_succ]
                  first
                    | (refine wpAnyH_take (i := 24) (oi := ⟨_, _, _, _, _, _⟩) (v := undef) rfl (by kernel_rfl) (by kernel_rfl) (by kernel_rfl) (fun _ _ _ h => h) (Or.inr ⟨by rfl, rfl⟩) (by exact hH3) ?_)
                    | (refine wpAnyH_take (i := 24) (oi := ⟨_, _, _, _, _, _⟩) (v := ?_) rfl (by kernel_rfl) (by kernel_rfl) (by kernel_rfl) (fun _ _ _ h => h) (Or.inl ⟨by rfl, ?_⟩) (by exact hH3) ?_; rotate_left; (focus (intro x hx; (try dsimp only at hx); go_simp; try (with_reducible rfl))))
                  try simp only [Act.put, List.setIfInBounds_toArray, List.set_cons_zero, List.set_cons_succ]
                  refine wpAnyH_done (by kernel_rfl) ?_ _
                  go_wp2_with fail
                  go_ret
                  exact ⟨ret_bool (by unfold profB; rw [fpsB_not (q := q) (by have := LR.out; omega) (by rw [getD_of_at HX.out, HFN.out]; unfold fpB; rw [allP_not HY.out (by unfold apB; simp [g1, g2])]; simp)]; simp), kt (kt (kt B3.out HB.out) (kt A6.out BU.out)) (by repeat (first | with_reducible exact BC2 | with_reducible refine qDrew ?_ | with_reducible refine qAlloc ?_))⟩
                · refine wp_region_held_drew (S := fun w' => w'.cell? ⟨V.heap.size, 3, none⟩ = some (.slice (some ⟨b7, o7, none⟩) an ac) ∧ w'.cell? ⟨b7, o7 + m * 3, none⟩ = some (.int .i64 y0) ∧ w'.cell? ⟨b7, o7 + m * 3 + 1, none⟩ = some (.int .i64 y1) ∧ w'.cell? ⟨b7, o7 + m * 3 + 2, none⟩ = some (.int .i64 y2)) (by kernel_rfl) ?_ (fun hH0 => ?_)
                  · (try dsimp only); (refine SA2.out _ ?_; (repeat (first | with_reducible exact BC2 | with_reducible refine qDrew ?_ | with_reducible refine qAlloc ?_)))
                  first
                    | (refine wpAnyH_take (i := 0) (oi := ⟨_, _, _, _, _, _⟩) (v := undef) rfl (by kernel_rfl) (by kernel_rfl) (by kernel_rfl) (fun _ _ _ h => h) (Or.inr ⟨by rfl, rfl⟩) (by exact hH0) ?_)
                    | (refine wpAnyH_take (i := 0) (oi := ⟨_, _, _, _, _, _⟩) (v := ?_) rfl (by kernel_rfl) (by kernel_rfl) (by kernel_rfl) (fun _ _ _ h => h) (Or.inl ⟨by rfl, ?_⟩) (by exact hH0) ?_; rotate_left; (focus (intro x hx; (try dsimp only at hx); go_simp; try (with_reducible rfl))))
                  try simp only [Act.put, List.setIfInBounds_toArray, List.set_cons_zero, List.set_cons_succ]
                  first
                    | (refine wpAnyH_take (i := 1) (oi := ⟨_, _, _, _, _, _⟩) (v := undef) rfl (by kernel_rfl) (by kernel_rfl) (by kernel_rfl) (fun _ _ _ h => h) (Or.inr ⟨by rfl, rfl⟩) (by exact hH0) ?_)
                    | (refine wpAnyH_take (i := 1) (oi := ⟨_, _, _, _, _, _⟩) (v := ?_) rfl (by kernel_rfl) (by kernel_rfl) (by kernel_rfl) (fun _ _ _ h => h) (Or.inl ⟨by rfl, ?_⟩) (by exact hH0) ?_; rotate_left; (focus (intro x hx; (try dsimp only at hx); go_simp; try (with_reducible rfl))))
                  try simp only [Act.put, List.setIfInBounds_toArray, List.set_cons_zero, List.set_cons_succ]
                  first
                    | (refine wpAnyH_take (i := 2) (oi := ⟨_, _, _, _, _, _⟩) (v := undef) rfl (by kernel_rfl) (by kernel_rfl) (by kernel_rfl) (fun _ _ _ h => h) (Or.inr ⟨by rfl, rfl⟩) (by exact hH0) ?_)
                    | (refine wpAnyH_take (i := 2) (oi := ⟨_, _, _, _, _, _⟩) (v := ?_) rfl (by kernel_rfl) (by kernel_rfl) (by kernel_rfl) (fun _ _ _ h => h) (Or.inl ⟨by rfl, ?_⟩) (by exact hH0) ?_; rotate_left; (focus (intro x hx; (try dsimp only at hx); go_simp; try (with_reducible rfl))))
                  try simp only [Act.put, List.setIfInBounds_toArray, List.set_cons_zero, List.set_cons_succ]
                  first
                    | (refine wpAnyH_take (i := 3) (oi := ⟨_, _, _, _, _, _⟩) (v := undef) rfl (by kernel_rfl) (by kernel_rfl) (by kernel_rfl) (fun _ _ _ h => h) (Or.inr ⟨by rfl, rfl⟩) (by exact hH0) ?_)
                    | (refine wpAnyH_take (i := 3) (oi := ⟨_, _, _, _, _, _⟩) (v := ?_) rfl (by kernel_rfl) (by kernel_rfl) (by kernel_rfl) (fun _ _ _ h => h) (Or.inl ⟨by rfl, ?_⟩) (by exact hH0) ?_; rotate_left; (focus (intro x hx; (try dsimp only at hx); go_simp; try (with_reducible rfl))))
                  try simp only [Act.put, List.setIfInBounds_toArray, List.set_cons_zero, List.set_cons_succ]
                  first
                    | (refine wpAnyH_take (i := 4) (oi := ⟨_, _, _, _, _, _⟩) (v := undef) rfl (by kernel_rfl) (by kernel_rfl) (by kernel_rfl) (fun _ _ _ h => h) (Or.inr ⟨by rfl, rfl⟩) (by exact hH0) ?_)
                    | (refine wpAnyH_take (i := 4) (oi := ⟨_, _, _, _, _, _⟩) (v := ?_) rfl (by kernel_rfl) (by kernel_rfl) (by kernel_rfl) (fun _ _ _ h => h) (Or.inl ⟨by rfl, ?_⟩) (by exact hH0) ?_; rotate_left; (focus (intro x hx; (try dsimp only at hx); go_simp; try (with_reducible rfl))))
                  try simp only [Act.put, List.setIfInBounds_toArray, List.set_cons_zero, List.set_cons_succ]
                  first
                    | (refine wpAnyH_take (i := 5) (oi := ⟨_, _, _, _, _, _⟩) (v := undef) rfl (by kernel_rfl) (by kernel_rfl) (by kernel_rfl) (fun _ _ _ h => h) (Or.inr ⟨by rfl, rfl⟩) (by exact hH0) ?_)
                    | (refine wpAnyH_take (i := 5) (oi := ⟨_, _, _, _, _, _⟩) (v := ?_) rfl (by kernel_rfl) (by kernel_rfl) (by kernel_rfl) (fun _ _ _ h => h) (Or.inl ⟨by rfl, ?_⟩) (by exact hH0) ?_; rotate_left; (focus (intro x hx; (try dsimp only at hx); go_simp; try (with_reducible rfl))))
                  try simp only [Act.put, List.setIfInBounds_toArray, List.set_cons_zero, List.set_cons_succ]
                  first
                    | (refine wpAnyH_take (i := 6) (oi := ⟨_, _, _, _, _, _⟩) (v := undef) rfl (by kernel_rfl) (by kernel_rfl) (by kernel_rfl) (fun _ _ _ h => h) (Or.inr ⟨by rfl, rfl⟩) (by exact hH0) ?_; have hH1 := hH0)
                    | (refine wpAnyH_ready (rs := [6]) (by kernel_rfl) (by simp) ?_; refine AllReadyH.cons (o := ⟨_, _, _, _, _, _⟩) rfl (fun K hK => ?_) ?_; rotate_left; (focus exact AllReadyH.nil); go_simp; go_at_call 35; refine (refNumber_any y0 _).mono ?_; rw [g1]; rintro e z1 ⟨rfl, hw⟩; rw [hw]; clear hw; refine hK.out _ _ ?_ (fun hH1 => ?_); (focus ((try dsimp only); (refine SA2.out _ ?_; (repeat (first | with_reducible exact BC2 | with_reducible refine qDrew ?_ | with_reducible refine qAlloc ?_))))); clear hK K)
                  try simp only [Act.put, List.setIfInBounds_toArray, List.set_cons_zero, List.set_cons_succ]
                  first
                    | (refine wpAnyH_take (i := 7) (oi := ⟨_, _, _, _, _, _⟩) (v := undef) rfl (by kernel_rfl) (by kernel_rfl) (by kernel_rfl) (fun _ _ _ h => h) (Or.inr ⟨by rfl, rfl⟩) (by exact hH1) ?_)
                    | (refine wpAnyH_take (i := 7) (oi := ⟨_, _, _, _, _, _⟩) (v := ?_) rfl (by kernel_rfl) (by kernel_rfl) (by kernel_rfl) (fun _ _ _ h => h) (Or.inl ⟨by rfl, ?_⟩) (by exact hH1) ?_; rotate_left; (focus (intro x hx; (try dsimp only at hx); go_simp; try (with_reducible rfl))))
                  try simp only [Act.put, List.setIfInBounds_toArray, List.set_cons_zero, List.set_cons_succ]
                  first
                    | (refine wpAnyH_take (i := 8) (oi := ⟨_, _, _, _, _, _⟩) (v := undef) rfl (by kernel_rfl) (by kernel_rfl) (by kernel_rfl) (fun _ _ _ h => h) (Or.inr ⟨by rfl, rfl⟩) (by exact hH1) ?_)
                    | (refine wpAnyH_take (i := 8) (oi := ⟨_, _, _, _, _, _⟩) (v := ?_) rfl (by kernel_rfl) (by kernel_rfl) (by kernel_rfl) (fun _ _ _ h => h) (Or.inl ⟨by rfl, ?_⟩) (by exact hH1) ?_; rotate_left; (focus (intro x hx; (try dsimp only at hx); go_simp; try (with_reducible rfl))))
                  try simp only [Act.put, List.setIfInBounds_toArray, List.set_cons_zero, List.set_cons_succ]
                  first
                    | (refine wpAnyH_take (i := 9) (oi := ⟨_, _, _, _, _, _⟩) (v := undef) rfl (by kernel_rfl) (by kernel_rfl) (by kernel_rfl) (fun _ _ _ h => h) (Or.inr ⟨by rfl, rfl⟩) (by exact hH1) ?_)
                    | (refine wpAnyH_take (i := 9) (oi := ⟨_, _, _, _, _, _⟩) (v := ?_) rfl (by kernel_rfl) (by kernel_rfl) (by kernel_rfl) (fun _ _ _ h => h) (Or.inl ⟨by rfl, ?_⟩) (by exact hH1) ?_; rotate_left; (focus (intro x hx; (try dsimp only at hx); go_simp; try (with_reducible rfl))))
                  try simp only [Act.put, List.setIfInBounds_toArray, List.set_cons_zero, List.set_cons_succ]
                  first
                    | (refine wpAnyH_take (i := 10) (oi := ⟨_, _, _, _, _, _⟩) (v := undef) rfl (by kernel_rfl) (by kernel_rfl) (by kernel_rfl) (fun _ _ _ h => h) (Or.inr ⟨by rfl, rfl⟩) (by exact hH1) ?_)
                    | (refine wpAnyH_take (i := 10) (oi := ⟨_, _, _, _, _, _⟩) (v := ?_) rfl (by kernel_rfl) (by kernel_rfl) (by kernel_rfl) (fun _ _ _ h => h) (Or.inl ⟨by rfl, ?_⟩) (by exact hH1) ?_; rotate_left; (focus (intro x hx; (try dsimp only at hx); go_simp; try (with_reducible rfl))))
                  try simp only [Act.put, List.setIfInBounds_toArray, List.set_cons_zero, List.set_cons_succ]
                  first
                    | (refine wpAnyH_take (i := 11) (oi := ⟨_, _, _, _, _, _⟩) (v := undef) rfl (by kernel_rfl) (by kernel_rfl) (by kernel_rfl) (fun _ _ _ h => h) (Or.inr ⟨by rfl, rfl⟩) (by exact hH1) ?_)
                    | (refine wpAnyH_take (i := 11) (oi := ⟨_, _, _, _, _, _⟩) (v := ?_) rfl (by kernel_rfl) (by kernel_rfl) (by kernel_rfl) (fun _ _ _ h => h) (Or.inl ⟨by rfl, ?_⟩) (by exact hH1) ?_; rotate_left; (focus (intro x hx; (try dsimp only at hx); go_simp; try (with_reducible rfl))))
                  try simp only [Act.put, List.setIfInBounds_toArray, List.set_cons_zero, List.set_cons_succ]
                  first
                    | (refine wpAnyH_take (i := 12) (oi := ⟨_, _, _, _, _, _⟩) (v := undef) rfl (by kernel_rfl) (by kernel_rfl) (by kernel_rfl) (fun _ _ _ h => h) (Or.inr ⟨by rfl, rfl⟩) (by exact hH1) ?_)
                    | (refine wpAnyH_take (i := 12) (oi := ⟨_, _, _, _, _, _⟩) (v := ?_) rfl (by kernel_rfl) (by kernel_rfl) (by kernel_rfl) (fun _ _ _ h => h) (Or.inl ⟨by rfl, ?_⟩) (by exact hH1) ?_; rotate_left; (focus (intro x hx; (try dsimp only at hx); go_simp; try (with_reducible rfl))))
                  try simp only [Act.put, List.setIfInBounds_toArray, List.set_cons_zero, List.set_cons_succ]
                  first
                    | (refine wpAnyH_take (i := 13) (oi := ⟨_, _, _, _, _, _⟩) (v := undef) rfl (by kernel_rfl) (by kernel_rfl) (by kernel_rfl) (fun _ _ _ h => h) (Or.inr ⟨by rfl, rfl⟩) (by exact hH1) ?_)
                    | (refine wpAnyH_take (i := 13) (oi := ⟨_, _, _, _, _, _⟩) (v := ?_) rfl (by kernel_rfl) (by kernel_rfl) (by kernel_rfl) (fun _ _ _ h => h) (Or.inl ⟨by rfl, ?_⟩) (by exact hH1) ?_; rotate_left; (focus (intro x hx; (try dsimp only at hx); go_simp; try (with_reducible rfl))))
                  try simp only [Act.put, List.setIfInBounds_toArray, List.set_cons_zero, List.set_cons_succ]
                  first
                    | (refine wpAnyH_take (i := 14) (oi := ⟨_, _, _, _, _, _⟩) (v := undef) rfl (by kernel_rfl) (by kernel_rfl) (by kernel_rfl) (fun _ _ _ h => h) (Or.inr ⟨by rfl, rfl⟩) (by exact hH1) ?_)
                    | (refine wpAnyH_take (i := 14) (oi := ⟨_, _, _, _, _, _⟩) (v := ?_) rfl (by kernel_rfl) (by kernel_rfl) (by kernel_rfl) (fun _ _ _ h => h) (Or.inl ⟨by rfl, ?_⟩) (by exact hH1) ?_; rotate_left; (focus (intro x hx; (try dsimp only at hx); go_simp; try (with_reducible rfl))))
                  try simp only [Act.put, List.setIfInBounds_toArray, List.set_cons_zero, List.set_cons_succ]
                  first
                    | (refine wpAnyH_take (i := 15) (oi := ⟨_, _, _, _, _, _⟩) (v := undef) rfl (by kernel_rfl) (by kernel_rfl) (by kernel_rfl) (fun _ _ _ h => h) (Or.inr ⟨by rfl, rfl⟩) (by exact hH1) ?_)
                    | (refine wpAnyH_take (i := 15) (oi := ⟨_, _, _, _, _, _⟩) (v := ?_) rfl (by kernel_rfl) (by kernel_rfl) (by kernel_rfl) (fun _ _ _ h => h) (Or.inl ⟨by rfl, ?_⟩) (by exact hH1) ?_; rotate_left; (focus (intro x hx; (try dsimp only at hx); go_simp; try (with_reducible rfl))))
                  try simp only [Act.put, List.setIfInBounds_toArray, List.set_cons_zero, List.set_cons_succ]
                  first
                    | (refine wpAnyH_take (i := 16) (oi := ⟨_, _, _, _, _, _⟩) (v := undef) rfl (by kernel_rfl) (by kernel_rfl) (by kernel_rfl) (fun _ _ _ h => h) (Or.inr ⟨by rfl, rfl⟩) (by exact hH1) ?_)
                    | (refine wpAnyH_take (i := 16) (oi := ⟨_, _, _, _, _, _⟩) (v := ?_) rfl (by kernel_rfl) (by kernel_rfl) (by kernel_rfl) (fun _ _ _ h => h) (Or.inl ⟨by rfl, ?_⟩) (by exact hH1) ?_; rotate_left; (focus (intro x hx; (try dsimp only at hx); go_simp; try (with_reducible rfl))))
                  try simp only [Act.put, List.setIfInBounds_toArray, List.set_cons_zero, List.set_cons_succ]
                  first
                    | (refine wpAnyH_take (i := 17) (oi := ⟨_, _, _, _, _, _⟩) (v := undef) rfl (by kernel_rfl) (by kernel_rfl) (by kernel_rfl) (fun _ _ _ h => h) (Or.inr ⟨by rfl, rfl⟩) (by exact hH1) ?_)
                    | (refine wpAnyH_take (i := 17) (oi := ⟨_, _, _, _, _, _⟩) (v := ?_) rfl (by kernel_rfl) (by kernel_rfl) (by kernel_rfl) (fun _ _ _ h => h) (Or.inl ⟨by rfl, ?_⟩) (by exact hH1) ?_; rotate_left; (focus (intro x hx; (try dsimp only at hx); go_simp; try (with_reducible rfl))))
                  try simp only [Act.put, List.setIfInBounds_toArray, List.set_cons_zero, List.set_cons_succ]
                  first
                    | (refine wpAnyH_take (i := 18) (oi := ⟨_, _, _, _, _, _⟩) (v := undef) rfl (by kernel_rfl) (by kernel_rfl) (by kernel_rfl) (fun _ _ _ h => h) (Or.inr ⟨by rfl, rfl⟩) (by exact hH1) ?_)
                    | (refine wpAnyH_take (i := 18) (oi := ⟨_, _, _, _, _, _⟩) (v := ?_) rfl (by kernel_rfl) (by kernel_rfl) (by kernel_rfl) (fun _ _ _ h => h) (Or.inl ⟨by rfl, ?_⟩) (by exact hH1) ?_; rotate_left; (focus (intro x hx; (try dsimp only at hx); go_simp; try (with_reducible rfl))))
                  try simp only [Act.put, List.setIfInBounds_toArray, List.set_cons_zero, List.set_cons_succ]
                  first
                    | (refine wpAnyH_take (i := 19) (oi := ⟨_, _, _, _, _, _⟩) (v := undef) rfl (by kernel_rfl) (by kernel_rfl) (by kernel_rfl) (fun _ _ _ h => h) (Or.inr ⟨by rfl, rfl⟩) (by exact hH1) ?_)
                    | (refine wpAnyH_take (i := 19) (oi := ⟨_, _, _, _, _, _⟩) (v := ?_) rfl (by kernel_rfl) (by kernel_rfl) (by kernel_rfl) (fun _ _ _ h => h) (Or.inl ⟨by rfl, ?_⟩) (by exact hH1) ?_; rotate_left; (focus (intro x hx; (try dsimp only at hx); go_simp; try (with_reducible rfl))))
                  try simp only [Act.put, List.setIfInBounds_toArray, List.set_cons_zero, List.set_cons_succ]
                  first
                    | (refine wpAnyH_take (i := 20) (oi := ⟨_, _, _, _, _, _⟩) (v := undef) rfl (by kernel_rfl) (by kernel_rfl) (by kernel_rfl) (fun _ _ _ h => h) (Or.inr ⟨by rfl, rfl⟩) (by exact hH1) ?_)
                    | (refine wpAnyH_take (i := 20) (oi := ⟨_, _, _, _, _, _⟩) (v := ?_) rfl (by kernel_rfl) (by kernel_rfl) (by kernel_rfl) (fun _ _ _ h => h) (Or.inl ⟨by rfl, ?_⟩) (by exact hH1) ?_; rotate_left; (focus (intro x hx; (try dsimp only at hx); go_simp; try (with_reducible rfl))))
                  try simp only [Act.put, List.setIfInBounds_toArray, List.set_cons_zero, List.set_cons_succ]
                  first
                    | (refine wpAnyH_take (i := 21) (oi := ⟨_, _, _, _, _, _⟩) (v := undef) rfl (by kernel_rfl) (by kernel_rfl) (by kernel_rfl) (fun _ _ _ h => h) (Or.inr ⟨by rfl, rfl⟩) (by exact hH1) ?_; have hH2 := hH1)
                    | (refine wpAnyH_ready (rs := [21]) (by kernel_rfl) (by simp) ?_; refine AllReadyH.cons (o := ⟨_, _, _, _, _, _⟩) rfl (fun K hK => ?_) ?_; rotate_left; (focus exact AllReadyH.nil); go_simp; refine hK.out _ _ ?_ (fun hH2 => ?_); (focus ((try dsimp only); (refine SA2.out _ ?_; (repeat (first | with_reducible exact BC2 | with_reducible refine qDrew ?_ | with_reducible refine qAlloc ?_))))); clear hK K)
                  try simp only [Act.put, List.setIfInBounds_toArray, List.set_cons_zero, List.set_cons_succ]
                  first
                    | (refine wpAnyH_take (i := 22) (oi := ⟨_, _, _, _, _, _⟩) (v := undef) rfl (by kernel_rfl) (by kernel_rfl) (by kernel_rfl) (fun _ _ _ h => h) (Or.inr ⟨by rfl, rfl⟩) (by exact hH2) ?_; have hH3 := hH2)
                    | (refine wpAnyH_ready (rs := [22]) (by kernel_rfl) (by simp) ?_; refine AllReadyH.cons (o := ⟨_, _, _, _, _, _⟩) rfl (fun K hK => ?_) ?_; rotate_left; (focus exact AllReadyH.nil); go_simp; go_at_call 34; refine (refCounts_any _ 2 2 [y1, y2] 2 _ NL2.out).mono ?_; rw [g2]; rintro e z1 ⟨rfl, hw⟩; rw [hw]; clear hw; refine hK.out _ _ ?_ (fun hH3 => ?_); (focus ((try dsimp only); (refine SA2.out _ ?_; (repeat (first | with_reducible exact BC2 | with_reducible refine qDrew ?_ | with_reducible refine qAlloc ?_))))); clear hK K)
                  try simp only [Act.put, List.setIfInBounds_toArray, List.set_cons_zero, List.set_cons_succ]
                  first
                    | (refine wpAnyH_take (i := 23) (oi := ⟨_, _, _, _, _, _⟩) (v := undef) rfl (by kernel_rfl) (by kernel_rfl) (by kernel_rfl) (fun _ _ _ h => h) (Or.inr ⟨by rfl, rfl⟩) (by exact hH3) ?_)
                    | (refine wpAnyH_take (i := 23) (oi := ⟨_, _, _, _, _, _⟩) (v := ?_) rfl (by kernel_rfl) (by kernel_rfl) (by kernel_rfl) (fun _ _ _ h => h) (Or.inl ⟨by rfl, ?_⟩) (by exact hH3) ?_; rotate_left; (focus (intro x hx; (try dsimp only at hx); go_simp; try (with_reducible rfl))))
                  try simp only [Act.put, List.setIfInBounds_toArray, List.set_cons_zero, List.set_cons_succ]
                  first
                    | (refine wpAnyH_take (i := 24) (oi := ⟨_, _, _, _, _, _⟩) (v := undef) rfl (by kernel_rfl) (by kernel_rfl) (by kernel_rfl) (fun _ _ _ h => h) (Or.inr ⟨by rfl, rfl⟩) (by exact hH3) ?_)
                    | (refine wpAnyH_take (i := 24) (oi := ⟨_, _, _, _, _, _⟩) (v := ?_) rfl (by kernel_rfl) (by kernel_rfl) (by kernel_rfl) (fun _ _ _ h => h) (Or.inl ⟨by rfl, ?_⟩) (by exact hH3) ?_; rotate_left; (focus (intro x hx; (try dsimp only at hx); go_simp; try (with_reducible rfl))))
                  try simp only [Act.put, List.setIfInBounds_toArray, List.set_cons_zero, List.set_cons_succ]
                  refine wpAnyH_done (by kernel_rfl) ?_ _
                  go_wp2_with fail
                  go_roundw
                  case rel => refine ⟨_, _, _, _, _, _, _, _, _, _, _, _, _, _, _, _, _, _, _, _, _, _, _, _, _, _, _, _, _, _, _, _, _, _, ⟨m + 1, by omega, by go_num, allP_step HA.out HY.out (by unfold apB; simp [g1, g2]), kt BU.out (by repeat (first | with_reducible exact BC2 | with_reducible refine qDrew ?_ | with_reducible refine qAlloc ?_))⟩, rfl⟩
                  case measure => simp [intOf]; omega
            · have hme : m = an := by omega
              subst hme
              go_wp2_with fail
              go_roundw
              case rel =>
                refine ⟨q + 1, by omega, by go_num, fpsB_step HF.out (by rw [getD_of_at HX.out, HFN.out]; unfold fpB; rw [HH.out]; have h := HA.out; rw [List.take_of_length_le (by have := AL.out; omega)] at h; simpa using h), kt HB.out (kt A6.out BU.out)⟩
              case measure => simp [intOf]; omega
    · have hqn : q = rn := by omega
      subst hqn
      go_wp2_with fail
      go_ret
      exact ⟨ret_bool (by unfold profB; rw [HV.out, show decide (l.length = ps.length) = true by rw [← LP.out, ← LR.out]; simp, ← LR.out, HF.out]; rfl), kt B3.out HB.out⟩

end Go.Proofs.YtppmkoigblimmaaGreatDoor

namespace Go.Proofs.YtppmkoigblimmaaGreatDoor
open Go.RowKit
set_option linter.unusedVariables false

theorem Tryz.infoIntM : (Tryz.prog.info? 3).map (fun i => (i.zero, i.size, i.bytes)) = some (some (.int .i64 0), 1, 8) := by kernel_rfl
theorem Tryz.infoFuncProf : (Tryz.prog.info? 51).map (fun i => (i.zero, i.size, i.bytes)) = some (some (.agg #[.int .i64 0, .slice none 0 0, .slice none 0 0, .slice none 0 0]), 4, 80) := by kernel_rfl
theorem make_intsM (n : Nat) (hn : n ≤ 100000) (u : World) : (Instr.makeSlice 28 (.int .i64 (n : Int)) (.int .i64 (n : Int))).run Tryz.prog u = .ok (.slice (some ⟨u.heap.size, 0, none⟩) n n) (u.alloc (.cells (madeCells #[.int .i64 0] (n * 1)) 3)) := by
  obtain ⟨j0, hjf, hy0, hy1, hy2⟩ := info_parts Tryz.infoIntM
  have hr := run_make (P := Tryz.prog) u 28 3 j0 (.int .i64 0) Tryz.underlying28 hjf hy0 .i64 .i64 (n : Int) (n : Int) (by omega) (Int.le_refl _) (by rw [hy2]; omega) (by omega)
  simp only [Int.toNat_natCast, hy1] at hr
  exact hr
theorem make_aps (n : Nat) (hn : n ≤ 100000) (u : World) : (Instr.makeSlice 49 (.int .i64 (n : Int)) (.int .i64 (n : Int))).run Tryz.prog u = .ok (.slice (some ⟨u.heap.size, 0, none⟩) n n) (u.alloc (.cells (madeCells #[.int .i64 0, .int .i64 0, .int .i64 0] (n * 3)) 53)) := by
  obtain ⟨j0, hjf, hy0, hy1, hy2⟩ := info_parts Tryz.infoArgProfs
  have hr := run_make (P := Tryz.prog) u 49 53 j0 (.agg #[.int .i64 0, .int .i64 0, .int .i64 0]) Tryz.underlying49 hjf hy0 .i64 .i64 (n : Int) (n : Int) (by omega) (Int.le_refl _) (by rw [hy2]; omega) (by omega)
  simp only [Int.toNat_natCast, hy1] at hr
  exact hr
theorem made_ints1 (k : Nat) : (madeCells #[.int .i64 0] (k * 1)).toList = ints (List.replicate k 0) := by
  apply List.ext_getElem
  · simp [madeCells, ints]
  · intro i h1 h2
    simp [madeCells, ints, Nat.mod_one]
theorem cellsAp_rep (k : Nat) : cellsOf cellsArgProfs (List.replicate k noAp) = List.replicate (k * 3) (Value.int .i64 0) := by
  induction k with
  | zero => rfl
  | succ k ih =>
    rw [List.replicate_succ, show noAp :: List.replicate k noAp = [noAp] ++ List.replicate k noAp from rfl, cellsOf_app, ih, cellsOf_one, show (k + 1) * 3 = k * 3 + 1 + 1 + 1 by omega, List.replicate_succ, List.replicate_succ, List.replicate_succ]
    rfl
theorem made_aps (k : Nat) : (madeCells #[.int .i64 0, .int .i64 0, .int .i64 0] (k * 3)).toList = cellsOf cellsArgProfs (List.replicate k noAp) := by
  rw [cellsAp_rep]
  apply List.ext_getElem
  · simp [madeCells]
  · intro i h1 h2
    have h : i % 3 = 0 ∨ i % 3 = 1 ∨ i % 3 = 2 := by omega
    rcases h with h | h | h <;> simp [madeCells, h]
/-- A row whose block is known whole. -/
theorem row_known {w : World} {b T size n : Nat} {cs : Array Value} (h : w.heap[b]? = some (.cells cs T)) (hs : cs.size = n * size) (hn : n ≤ maxLen) : w.ownsRow 0 T size (.slice (some ⟨b, 0, none⟩) n n) n cs.toList :=
  ⟨by simp [hs], .inr ⟨b, n, cs, rfl, Nat.zero_le _, h, Nat.le_refl _, hn, hs, by rw [List.take_of_length_le (by simp [hs])]⟩⟩
/-- A function's profile of nothing, in three rows of its own. -/
theorem new_fp {w w' : World} {row : Option Nat} {b1 b2 b3 cn an : Nat} (hg : w.grownBy w' row) (hc : cn ≤ 100000) (ha : an ≤ 100000) (h1 : w.heap[b1]? = some (.cells (madeCells #[.int .i64 0] (cn * 1)) 3)) (h2 : w.heap[b2]? = some (.cells (madeCells #[.int .i64 0] (cn * 1)) 3))
    (h3 : w.heap[b3]? = some (.cells (madeCells #[.int .i64 0, .int .i64 0, .int .i64 0] (an * 3)) 53)) (h12 : b1 ≠ b2) (h13 : b1 ≠ b3) (h23 : b2 ≠ b3) :
    layFp.owns w (fun b => b = b1 ∨ b = b2 ∨ b = b3) [.int .i64 0, .slice (some ⟨b1, 0, none⟩) cn cn, .slice (some ⟨b2, 0, none⟩) cn cn, .slice (some ⟨b3, 0, none⟩) an an] (0, List.replicate cn 0, List.replicate cn 0, List.replicate an noAp) := by
  have key : ∀ b, w.heap[b]? = some (.cells (madeCells #[.int .i64 0] (cn * 1)) 3) → OSl layI 3 8 w (fun c => c = b) (.slice (some ⟨b, 0, none⟩) cn cn) (List.replicate cn 0) := fun b hb => by
    have r := row_known hb (size_madeCells _ _) (by unfold maxLen; omega)
    rw [made_ints1] at r
    exact osl_ints (by simp; omega) (by simpa using r) (fun g hg => (Option.some.inj hg).symm)
  have key3 : OSl layArgProfs 53 24 w (fun c => c = b3) (.slice (some ⟨b3, 0, none⟩) an an) (List.replicate an noAp) := by
    have r := row_known h3 (size_madeCells _ _) (by unfold maxLen; omega)
    rw [made_aps] at r
    exact flatArgProfs.osl (base := 0) (by simp; omega) (by rw [List.length_replicate]; exact r) (fun g hg => (Option.some.inj hg).symm)
  refine ⟨[.int .i64 0], _, fun _ => False, fun b => b = b1 ∨ b = b2 ∨ b = b3, rfl, fun _ h => h.elim, fun _ h => h, fun _ h _ => h.elim, rfl, ?_⟩
  refine ⟨[_], _, fun b => b = b1, fun b => b = b2 ∨ b = b3, rfl, fun _ h => .inl h, fun _ h => .inr h, fun b h k => by rcases k with k | k <;> omega, ⟨_, rfl, key b1 h1⟩, ?_⟩
  exact ⟨[_], [_], fun b => b = b2, fun b => b = b3, rfl, fun _ h => .inl h, fun _ h => .inr h, fun b h k => by omega, ⟨_, rfl, key b2 h2⟩, ⟨_, rfl, key3⟩⟩
theorem drew_heap (u : World) : u.drew.heap = u.heap := rfl
theorem alloc_at (u : World) (o : Obj) (b : Nat) : (u.alloc o).heap[b]? = if b = u.heap.size then some o else u.heap[b]? := by
  by_cases h : b = u.heap.size
  · rw [if_pos h, h]; exact heap_alloc_new u o
  · rw [if_neg h]
    rcases Nat.lt_or_ge b u.heap.size with hl | hg
    · exact heap_alloc_old u o hl
    · rw [Array.getElem?_eq_none hg, Array.getElem?_eq_none (by simp; omega)]
/-- A function's profile of nothing, appended. -/
theorem snoc_new {V w5 w6 : World} {rb q cn an g' cap' b1 b2 b3 H : Nat} {v u : Value} {l : List Fp} {t : List (List Value)} {F : Nat → Nat → Prop}
    (ho : w6.ownsRow 0 51 4 (.slice (some ⟨g', 0, none⟩) (q + 1) cap') (q + 1) (t.flatten ++ (#[.int .i64 0, .slice (some ⟨b1, 0, none⟩) cn cn, .slice (some ⟨b2, 0, none⟩) cn cn, .slice (some ⟨b3, 0, none⟩) an an] : Array Value).toList)) (hg : w5.grownBy w6 v.ownBlock) (hat : v.ownBlock = some g' ∨ g' = H) (hH : w5.heap.size = H)
    (bl : Below V.heap.size V w5) (hc : cn ≤ 64) (ha : an ≤ 4) (hq : q < 8) (hm : l.length = q) (k1 : t.length = q) (k2 : V.ownsRow 0 51 4 v q t.flatten) (k3 : (∀ g, v.ownBlock = some g → (rb < g ∧ g < V.heap.size) ∧ ∀ i, ¬ F i g) ∧ (∀ i b, F i b → rb < b ∧ b < V.heap.size) ∧ (∀ i j b, i ≠ j → F i b → F j b → False) ∧ ∀ i x, l[i]? = some x → layFp.owns V (F i) (t.getD i []) x)
    (hr : rb < V.heap.size) (hcell : V.cell? ⟨rb, 0, none⟩ = some u) (hfr : V.frozen? ⟨rb, 0, none⟩ = false)
    (h1 : w5.heap[b1]? = some (.cells (madeCells #[.int .i64 0] (cn * 1)) 3)) (h2 : w5.heap[b2]? = some (.cells (madeCells #[.int .i64 0] (cn * 1)) 3)) (h3 : w5.heap[b3]? = some (.cells (madeCells #[.int .i64 0, .int .i64 0, .int .i64 0] (an * 3)) 53))
    (h12 : b1 ≠ b2) (h13 : b1 ≠ b3) (h23 : b2 ≠ b3) (p1 : V.heap.size ≤ b1) (p2 : V.heap.size ≤ b2) (p3 : V.heap.size ≤ b3) :
    (OSl layFp 51 80 w6 (fun b => rb < b) (.slice (some ⟨g', 0, none⟩) (q + 1) cap') (l ++ [(0, List.replicate cn 0, List.replicate cn 0, List.replicate an noAp)]) ∧ w6.cell? ⟨rb, 0, none⟩ = some u ∧ w6.frozen? ⟨rb, 0, none⟩ = false ∧ Frm (fun b => v.ownBlock = some b) w5 w6) ∧ ∀ b o x, b ≤ rb → V.cell? ⟨b, o, none⟩ = some x → w6.cell? ⟨b, o, none⟩ = some x := by
  have hs := bl.size
  have far : ∀ b, b ≤ rb → some b ≠ v.ownBlock := fun b hb e => by have := (k3.1 b e.symm).1.1; omega
  have hfp := new_fp hg (by omega) (by omega) h1 h2 h3 h12 h13 h23
  have hsn := OSl.snoc (L := layFp) (bytes := 80) (B := fun b => rb < b ∧ b < V.heap.size) hm k1 (owns_kept k2 bl) k3.1 k3.2.1 k3.2.2.1 (fun i x hx => layFp.frmO (k3.2.2.2 i x hx) (fun b _ hlt => bl.block b hlt)) hfp (fun b hb hx => by rcases hx with e | e | e <;> omega) (by omega) ho hg (by rw [hH]; exact hat)
  refine ⟨⟨hsn.sub (fun b hb _ => ?_), hg.cell (kept_cell bl hcell) (far rb (Nat.le_refl _)), (hg.frozen_far ⟨rb, 0, none⟩ (by simp; omega) (far rb (Nat.le_refl _))).trans ((bl.frozen (p := ⟨rb, 0, none⟩) hr).trans hfr), Frm.of_grown hg (fun k hk => hk)⟩, fun b o x hb hx => hg.cell (kept_cell bl hx) (far b hb)⟩
  rcases hb with hb | hb | hb
  · exact hb.1
  · rcases hb with e | e | e <;> omega
  · omega
theorem grown_below {V w5 w6 : World} {rb : Nat} {row : Option Nat} (hg : w5.grownBy w6 row) (bl : Below V.heap.size V w5) (hr : ∀ k, row = some k → rb < k) (hs : rb ≤ V.heap.size) : Below rb V w6 :=
  (bl.mono hs).trans (Below.grown (Below.refl _ _) hg (Nat.le_trans hs bl.size) (fun k hk => Nat.le_of_lt (hr k hk)))
/-- A row made ahead stays, while another one is made and one cell of the box is written. -/
theorem row_on {α : Type} {L : Lay α} {T bytes fb : Nat} {U w' U' : World} {B : Nat → Prop} {v : Value} {l : List α} (o : OSl L T bytes U B v l) (b : Below U.heap.size U w') (f : ∀ c, c ≠ fb → U'.heap[c]? = w'.heap[c]?) (hn : ¬ B fb) : OSl L T bytes U' B v l :=
  (o.kept b).frm (fun c hc _ => f c (fun e => hn (e ▸ hc)))
theorem fp_owns {w : World} {B1 B2 B3 : Nat → Prop} {x : Int} {v1 v2 v3 : Value} {jl fl : List Int} {al : List Ap} (o1 : OSl layI 3 8 w B1 v1 jl) (o2 : OSl layI 3 8 w B2 v2 fl) (o3 : OSl layArgProfs 53 24 w B3 v3 al) (h12 : ∀ b, B1 b → B2 b → False) (h13 : ∀ b, B1 b → B3 b → False) (h23 : ∀ b, B2 b → B3 b → False) :
    layFp.owns w (fun b => B1 b ∨ B2 b ∨ B3 b) [.int .i64 x, v1, v2, v3] (x, jl, fl, al) := by
  refine ⟨[.int .i64 x], _, fun _ => False, fun b => B1 b ∨ B2 b ∨ B3 b, rfl, fun _ h => h.elim, fun _ h => h, fun _ h _ => h.elim, rfl, ?_⟩
  refine ⟨[_], _, B1, fun b => B2 b ∨ B3 b, rfl, fun _ h => .inl h, fun _ h => .inr h, fun b h k => by rcases k with k | k; exact h12 b h k; exact h13 b h k, ⟨_, rfl, o1⟩, ?_⟩
  exact ⟨[_], [_], B2, B3, rfl, fun _ h => .inl h, fun _ h => .inr h, h23, ⟨_, rfl, o2⟩, ⟨_, rfl, o3⟩⟩
/-- A function's profile, appended. -/
theorem snoc_fp {V w5 w6 : World} {rb q g' cap' : Nat} {v u : Value} {l : List Fp} {t : List (List Value)} {F : Nat → Nat → Prop} {Bx : Nat → Prop} {cs : List Value} {y : Fp} (hr8 : (q + 1) * 80 ≤ 140737488351232)
    (ho : w6.ownsRow 0 51 4 (.slice (some ⟨g', 0, none⟩) (q + 1) cap') (q + 1) (t.flatten ++ cs)) (hg : w5.grownBy w6 v.ownBlock) (hat : v.ownBlock = some g' ∨ g' = w5.heap.size)
    (bl : Below V.heap.size V w5) (hx : layFp.owns w5 Bx cs y) (hbx : ∀ b, Bx b → V.heap.size ≤ b) (hm : l.length = q) (k1 : t.length = q) (k2 : V.ownsRow 0 51 4 v q t.flatten) (k3 : (∀ g, v.ownBlock = some g → (rb < g ∧ g < V.heap.size) ∧ ∀ i, ¬ F i g) ∧ (∀ i b, F i b → rb < b ∧ b < V.heap.size) ∧ (∀ i j b, i ≠ j → F i b → F j b → False) ∧ ∀ i x, l[i]? = some x → layFp.owns V (F i) (t.getD i []) x)
    (hr : rb < V.heap.size) (hcell : V.cell? ⟨rb, 0, none⟩ = some u) (hfr : V.frozen? ⟨rb, 0, none⟩ = false) :
    OSl layFp 51 80 w6 (fun b => rb < b) (.slice (some ⟨g', 0, none⟩) (q + 1) cap') (l ++ [y]) ∧ w6.cell? ⟨rb, 0, none⟩ = some u ∧ w6.frozen? ⟨rb, 0, none⟩ = false := by
  have hs := bl.size
  have far : ∀ b, b ≤ rb → some b ≠ v.ownBlock := fun b hb e => by have := (k3.1 b e.symm).1.1; omega
  have hsn := OSl.snoc (L := layFp) (bytes := 80) (B := fun b => rb < b ∧ b < V.heap.size) hm k1 (owns_kept k2 bl) k3.1 k3.2.1 k3.2.2.1 (fun i x hx => layFp.frmO (k3.2.2.2 i x hx) (fun b _ hlt => bl.block b hlt)) hx (fun b hb hx => by have := hbx b hx; omega) hr8 ho hg hat
  refine ⟨hsn.sub (fun b hb _ => ?_), hg.cell (kept_cell bl hcell) (far rb (Nat.le_refl _)), (hg.frozen_far ⟨rb, 0, none⟩ (by simp; omega) (far rb (Nat.le_refl _))).trans ((bl.frozen (p := ⟨rb, 0, none⟩) hr).trans hfr)⟩
  rcases hb with hb | hb | hb
  · exact hb.1
  · have := hbx b hb; omega
  · omega

end Go.Proofs.YtppmkoigblimmaaGreatDoor

namespace Go.Proofs.YtppmkoigblimmaaGreatDoor
open Go.RowKit
set_option linter.unusedVariables false
section
variable {P : Program} {ops : Array Oper} {Q : Exit → Act → World → Prop} {md : Region.Mode} {S1 S2 : World → Prop} {k : Nat}

/-- What is held where so many have come up: S1 at all times, S2 till k. -/
def heldL (S1 S2 : World → Prop) (k : Nat) (done : Array Bool) (w : World) : Prop := S1 w ∧ (done.getD k true = false → S2 w)
/-- Whatever comes up next, to the end; what is held is shown behind each. -/
def wpL (P : Program) (md : Region.Mode) (ops : Array Oper) (Q : Exit → Act → World → Prop) (S1 S2 : World → Prop) (k : Nat) : Nat → Array Bool → Act → World → Prop
  | 0, done, a, w => Region.ready md ops done = [] ∧ Q .normal a w
  | n + 1, done, a, w => (Region.ready md ops done = [] → Q .normal a w) ∧ ∀ j ∈ Region.ready md ops done, wpOp P ops Q j (fun a' w' => heldL S1 S2 k (done.setIfInBounds j true) w' ∧ wpL P md ops Q S1 S2 k n (done.setIfInBounds j true) a' w') a w
theorem wpL_any : ∀ (n : Nat) (done : Array Bool) (a : Act) (w : World), wpL P md ops Q S1 S2 k n done a w → wpAny P md ops Q n done a w
  | 0, _, _, _, h => h
  | n + 1, _, _, _, h => ⟨h.1, fun j hj => wpOp_mono (fun a' w' h' => wpL_any n _ a' w' h'.2) (h.2 j hj)⟩
/-- k waits for i. -/
def waitsFor (md : Region.Mode) (ops : Array Oper) (k i : Nat) : Bool := match ops[k]? with
  | some o => o.after.any fun e => Region.binds md e && e.on == i
  | none => true
theorem not_ready {i : Nat} {done : Array Bool} (h : waitsFor md ops k i = true) (hi : done.getD i true = false) : k ∉ Region.ready md ops done := by
  intro hk
  obtain ⟨_, o, ho, hall⟩ := mem_ready.1 hk
  unfold waitsFor at h
  rw [ho] at h
  obtain ⟨e, he, hb⟩ := Array.any_eq_true'.1 h
  simp only [Bool.and_eq_true, beq_iff_eq] at hb
  have h1 := hall e he hb.1
  rw [hb.2] at h1
  rcases Nat.lt_or_ge i done.size with h' | h'
  · simp [h'] at hi h1; rw [hi] at h1; cases h1
  · simp [Array.getElem?_eq_none h'] at h1
theorem getD_self {done : Array Bool} {j : Nat} : ¬ (done.setIfInBounds j true).getD j true = false := by
  intro h
  rcases Nat.lt_or_ge j done.size with hl | hg
  · simp [hl] at h
  · have e : done[j]? = none := Array.getElem?_eq_none hg
    simp at h
theorem heldL_swap {i j : Nat} {done : Array Bool} {w : World} (hik : i ≠ k) (h : heldL S1 S2 k ((done.setIfInBounds i true).setIfInBounds j true) w) : heldL S1 S2 k (done.setIfInBounds j true) w := by
  refine ⟨h.1, fun hk => h.2 ?_⟩
  by_cases hj : j = k
  · subst hj; exact absurd hk getD_self
  · rw [getD_set_ne true hj] at hk ⊢
    rw [getD_set_ne true hik]
    exact hk
/-- What yields as long as k has not come up, and what k waits for, may be taken first. -/
theorem wpL_first {i : Nat} {oi : Oper} {v : Value} (hi : ops[i]? = some oi) (hsel : ∀ (j : Nat) (o : Oper) cs b, ops[j]? = some o → o.op ≠ .select cs b)
    (hQ : ∀ c a w, Q (.panic c) (a.put oi.dst v) w → Q (.panic c) a w) (hki : waitsFor md ops k i = true) (hik : i ≠ k) (n : Nat) : ∀ (done : Array Bool) (a : Act) (w : World),
      (∀ j oj, ops[j]? = some oj → j ≠ i → done.getD j true = false → (∀ e ∈ oj.after, Region.binds md e = true → e.on ≠ i) → oi.apart ops oj = true) →
      i ∈ Region.ready md ops done → done.getD k true = false → YieldsIf P ops (fun w => S1 w ∧ S2 w) oi v a → heldL S1 S2 k done w →
      wpL P md ops Q S1 S2 k n (done.setIfInBounds i true) (a.put oi.dst v) w → wpL P md ops Q S1 S2 k (n + 1) done a w := by
  induction n with
  | zero =>
    intro done a w _ hr hk hy hS H
    refine ⟨fun h => absurd hr (by rw [h]; simp), fun j hj => ?_⟩
    by_cases hji : j = i
    · rw [hji]; exact hy.wpOp hi ⟨hS.1, hS.2 hk⟩ ⟨⟨hS.1, fun _ => hS.2 hk⟩, H⟩
    · exact absurd (ready_mono hj hji) (by rw [H.1]; simp)
  | succ n ih =>
    intro done a w hfree hr hk hy hS H
    refine ⟨fun h => absurd hr (by rw [h]; simp), fun j hj => ?_⟩
    by_cases hji : j = i
    · rw [hji]; exact hy.wpOp hi ⟨hS.1, hS.2 hk⟩ ⟨⟨hS.1, fun _ => hS.2 hk⟩, H⟩
    have hiu := (mem_ready.1 hr).1
    obtain ⟨hju, oj, hoj, hall⟩ := mem_ready.1 hj
    have hjk : j ≠ k := fun e => not_ready hki hiu (e ▸ hj)
    have hwait : ∀ e ∈ oj.after, Region.binds md e = true → e.on ≠ i := fun e he hb hei => by
      have h1 := hall e he hb
      rw [hei] at h1
      rcases Nat.lt_or_ge i done.size with hl | hg
      · simp [hl] at hiu h1; rw [hiu] at h1; cases h1
      · simp [Array.getElem?_eq_none hg] at h1
    have step := wpOp_putIf hoj (hfree j oj hoj hji hju hwait) (fun cs b => hsel i oi cs b hi) (fun cs b => hsel j oj cs b hoj) hQ hy (H.2 j (ready_mono hj hji))
    refine wpOp_mono (fun a' w' h3 => ⟨heldL_swap hik h3.2.1, ih (done.setIfInBounds j true) a' w' (fun m om hm hmi hun hno => hfree m om hm hmi ?_ hno) (ready_mono hr (Ne.symm hji)) (by rw [getD_set_ne true hjk]; exact hk) h3.1 (heldL_swap hik h3.2.1) ?_⟩) step
    · by_cases hjm : j = m
      · rw [← hjm]; exact hju
      · rw [getD_set_ne true hjm] at hun; exact hun
    · rw [Array.setIfInBounds_comm _ _ hji]
      exact h3.2.2

/- the moves of a walk, as the library's own (wp_region_held_drew, wpAnyH_take, wpAnyH_ready, AllReadyH.cons, wpAnyH_done) -/
theorem wp_region_L {id : Nat} {a : Act} {w : World} (k : Nat) (S1 S2 : World → Prop) (hm : P.follows .mixedOrders = true) (hS : S1 w.drew ∧ S2 w.drew)
    (h : S1 w.drew ∧ S2 w.drew → wpL P .any ops Q S1 S2 k ops.size (Array.replicate ops.size false) a w.drew) : (Code.region id ops true).wp P Q a w :=
  wp_region_any hm (wpL_any _ _ _ _ (h hS))
theorem wpL_take {i : Nat} {oi : Oper} {v : Value} {n : Nat} {done : Array Bool} {a : Act} {w : World} (hi : ops[i]? = some oi) (hs : Region.noSelect ops = true) (hf : Region.free md ops done i = true) (hr : (Region.ready md ops done).contains i = true)
    (hki : (waitsFor md ops k i && i != k) = true) (hk : done.getD k true = false) (hQ : ∀ c a w, Q (.panic c) (a.put oi.dst v) w → Q (.panic c) a w) (hy : YieldsIf P ops (fun w => S1 w ∧ S2 w) oi v a) (hS : S1 w ∧ S2 w)
    (h : wpL P md ops Q S1 S2 k n (done.setIfInBounds i true) (a.put oi.dst v) w) : wpL P md ops Q S1 S2 k (n + 1) done a w := by
  simp only [Bool.and_eq_true, bne_iff_ne] at hki
  exact wpL_first hi (Region.noSelect_spec hs) hQ hki.1 hki.2 n done a w (Region.free_spec hi hf) (by simpa using hr) hk hy ⟨hS.1, fun _ => hS.2⟩ h
/-- Each of rs comes up next. -/
def eachL (P : Program) (md : Region.Mode) (ops : Array Oper) (Q : Exit → Act → World → Prop) (S1 S2 : World → Prop) (k n : Nat) (done : Array Bool) (a : Act) (w : World) (rs : List Nat) : Prop :=
  ∀ j ∈ rs, wpOp P ops Q j (fun a' w' => heldL S1 S2 k (done.setIfInBounds j true) w' ∧ wpL P md ops Q S1 S2 k n (done.setIfInBounds j true) a' w') a w
theorem eachL_nil {n : Nat} {done : Array Bool} {a : Act} {w : World} : eachL P md ops Q S1 S2 k n done a w [] := fun _ h => by cases h
theorem eachL_cons {n : Nat} {done : Array Bool} {a : Act} {w : World} {i : Nat} {o : Oper} {rs : List Nat} (ho : ops[i]? = some o) (hik : (i != k) = true)
    (h : ∀ K' : Act → World → Prop, Shut (∀ a w, S1 w ∧ S2 w → (S1 w ∧ S2 w → wpL P md ops Q S1 S2 k n (done.setIfInBounds i true) a w) → K' a w) → if Region.wanted o (yielded ops a.tmps) = true then Oper.wp P o a w K' Q else K' (a.put o.dst undef) w)
    (hs : eachL P md ops Q S1 S2 k n done a w rs) : eachL P md ops Q S1 S2 k n done a w (i :: rs) := fun j hj => by
  rcases List.mem_cons.1 hj with e | hj
  · rw [e]
    exact wpOp_step ho (fun K' hK => h K' (fun a w hS hW => hK a w ⟨⟨hS.1, fun _ => hS.2⟩, hW hS⟩))
  · exact hs j hj
/-- k itself, at the end: S2 is not asked any more. -/
theorem eachL_last {n : Nat} {done : Array Bool} {a : Act} {w : World} {o : Oper} (ho : ops[k]? = some o)
    (h : ∀ K' : Act → World → Prop, Shut (∀ a w, S1 w → wpL P md ops Q S1 S2 k n (done.setIfInBounds k true) a w → K' a w) → if Region.wanted o (yielded ops a.tmps) = true then Oper.wp P o a w K' Q else K' (a.put o.dst undef) w) : eachL P md ops Q S1 S2 k n done a w [k] := fun j hj => by
  have e : j = k := by simpa using hj
  rw [e]
  exact wpOp_step ho (fun K' hK => h K' (fun a w hS hW => hK a w ⟨⟨hS, fun hf => absurd hf getD_self⟩, hW⟩))
theorem wpL_ready {rs : List Nat} {n : Nat} {done : Array Bool} {a : Act} {w : World} (hr : Region.ready md ops done = rs) (hne : rs ≠ []) (h : eachL P md ops Q S1 S2 k n done a w rs) : wpL P md ops Q S1 S2 k (n + 1) done a w :=
  ⟨fun h0 => absurd (hr ▸ h0) hne, fun j hj => h j (hr ▸ hj)⟩
theorem wpL_done {done : Array Bool} {a : Act} {w : World} (hr : Region.ready md ops done = []) (h : Q .normal a w) : ∀ n, wpL P md ops Q S1 S2 k n done a w
  | 0 => ⟨hr, h⟩
  | _ + 1 => ⟨fun _ => h, by rw [hr]; simp⟩

end
end Go.Proofs.YtppmkoigblimmaaGreatDoor

namespace Go.Proofs.YtppmkoigblimmaaGreatDoor
open Go.RowKit
set_option linter.unusedVariables false

set_option maxRecDepth 100000 in
set_option maxHeartbeats 16000000 in
theorem refNew_any (pa : Option Addr) (pn pc : Nat) (ps : List Fn) (w : World) (hp : Fns w pa pn pc ps) :
    Calls Tryz.prog 9 #[.agg #[.slice pa pn pc]] w fun e w' => ∃ v, e = .returned (.tuple #[.agg #[v], .int .i64 (newE ps)]) ∧ OSl layFp 51 80 w' (fun b => w.heap.size ≤ b) v (newP ps) ∧ Below w.heap.size w w' := by
  obtain ⟨i0, hi, hz0, hz1, hz2⟩ := info_parts Tryz.infoFuncProf
  have LP := hid hp.len
  have hpr := hp.room
  have hpc := hp.cap
  have HP := hid hp
  clear hp
  have W2 : Hid (∃ U : World, U = (w.alloc (.cells #[.slice pa pn pc] 24)).alloc (.cells #[.slice none 0 0] 27)) := hid ⟨_, rfl⟩
  obtain ⟨w2, hw2⟩ := W2.out
  have B2 : Hid (Below w.heap.size w w2) := hid (by rw [hw2]; go_grown)
  have P2 : Hid (w2.cell? ⟨w.heap.size, 0, none⟩ = some (.slice pa pn pc)) := hid (by rw [hw2]; simp [go_sem])
  have R2 : Hid (w2.cell? ⟨w.heap.size + 1, 0, none⟩ = some (.slice none 0 0) ∧ w2.frozen? ⟨w.heap.size + 1, 0, none⟩ = false) := hid (by rw [hw2]; exact ⟨by simp [go_sem], by simp [go_sem]⟩)
  have hs2 : w2.heap.size = w.heap.size + 2 := by rw [hw2]; simp
  have E2 := hid hw2
  clear hw2 W2
  go_enter Tryz.func9, Tryz.ntmps9
  go_wp2_with fail
  refine calls_inU (U := w2) (by rw [E2.out]) ?_
  refine (refVerify_any _ _ _ ps _ (HP.out.kept B2.out)).mono ?_
  rintro e w3 ⟨rfl, b3⟩
  have B3 := hid (kt B2.out b3)
  have P3 := hid (kept_cell b3 P2.out)
  have r3 := kept_cell b3 R2.out.1
  have f3 := (b3.frozen (p := ⟨w.heap.size + 1, 0, none⟩) (lt_of_cell R2.out.1)).trans R2.out.2
  have hs3 : w.heap.size + 2 ≤ w3.heap.size := by have := b3.size; omega
  have R3 := hid (And.intro r3 f3)
  clear b3 E2 P2 R2 hs2
  by_cases hv : verV ps = 0
  rotate_left
  · have hv' : (verV ps != 0) = true := by simpa using hv
    have HV := hid hv
    clear hv
    go_wp2_with fail
    refine bodyPost_ret (v := .tuple #[.agg #[.slice none 0 0], .int .i64 900]) (by simp [results, Tryz.results9, go_sem, r3]) rfl ⟨.slice none 0 0, by simp only [newE, if_neg HV.out], by rw [newP, if_neg HV.out]; exact OSl.nil _ _ _ _ _, B3.out.setCell (by simp) _⟩
  have HV := hid hv
  have hv' : (verV ps != 0) = false := by simpa using hv
  have h8 : ps.length ≤ 8 := (ver_some hv).2
  clear hv
  have W4 : Hid (∃ U : World, U = w3.alloc (.cells #[.slice none 0 0] 27)) := hid ⟨_, rfl⟩
  obtain ⟨w4, hw4⟩ := W4.out
  have A4 : Hid (Below w3.heap.size w3 w4) := hid (by rw [hw4]; exact Below.alloc (Below.refl _ _) (Nat.le_refl _) _)
  have V4 : Hid (w4.cell? ⟨w3.heap.size, 0, none⟩ = some (.slice none 0 0) ∧ w4.frozen? ⟨w3.heap.size, 0, none⟩ = false) := hid (by rw [hw4]; exact ⟨by simp [go_sem], by simp [go_sem]⟩)
  have E4 := hid hw4
  clear hw4 W4
  go_wp2_with fail
  refine wp_world (U := w4) (by rw [E4.out]) ?_
  go_loopw [5] (fun i wr => ∃ (q : Nat) (va : Option Addr) (vn vc : Nat), q ≤ pn ∧ i = .int .i64 q ∧ wr.cell? ⟨w3.heap.size, 0, none⟩ = some (.slice va vn vc) ∧ wr.frozen? ⟨w3.heap.size, 0, none⟩ = false ∧ OSl layFp 51 80 wr (fun b => w3.heap.size < b) (.slice va vn vc) ((ps.take q).map newFp) ∧ Below w3.heap.size w3 wr) (fun i _ => pn - (intOf i).toNat)
  case atStart => exact ⟨0, none, 0, 0, Nat.zero_le _, rfl, V4.out.1, V4.out.2, OSl.nil _ _ _ _ _, A4.out⟩
  case round =>
    clear r3 f3 E4 V4 A4
    obtain ⟨q, va, vn, vc, hq, rfl, v0, vf, ho, hb⟩ := hrel
    obtain ⟨V, hV⟩ : ∃ V : World, V = wr := ⟨_, rfl⟩
    subst hV
    have HO := hid ho
    have HB := hid hb
    have VC := hid (And.intro v0 vf)
    have p4 := kept_cell hb P3.out
    have hsv := hb.size
    have hsr := lt_of_cell v0
    clear ho
    by_cases hlt : q < pn
    · obtain ⟨b5, o5, fx, fy, ca, cn, cc, code, rfl, hfn, d0, d1, d2, i5⟩ := (HP.out.kept (kt B3.out hb)).at q hlt
      have hb5 : b5 < w.heap.size := by
        obtain ⟨b', o', _, _, _, _, _, _, e, _, cc', _⟩ := HP.out.at q hlt
        cases e
        exact lt_of_cell cc'
      have HFN := hid hfn
      have CL := hid i5.len
      have hfq : q < ps.length := by rw [← LP.out]; exact hlt
      have hver := ver_fn HV.out hfq hfn
      obtain ⟨an, rfl⟩ : ∃ an : Nat, fx = an := ⟨fx.toNat, by omega⟩
      have hcn : cn ≤ 64 := by rw [CL.out]; omega
      have han : an ≤ 4 := by omega
      have hq8 : q < 8 := by omega
      have mkI := make_intsM cn (by omega)
      have mkA := make_aps an (by omega)
      obtain ⟨hol, t, F, h1, h2, h4, h5, h6, h3⟩ := HO.out.clip
      have hlen : ((ps.take q).map newFp).length = q := by simp; omega
      rw [hlen] at h1 h2
      have HT1 := hid h1
      have HT2 := hid h2
      have HT3 := hid (And.intro h4 (And.intro h5 (And.intro h6 h3)))
      have HLEN := hid hlen
      have hq0 : (0 : Int) ≤ (q : Int) := by omega
      have hq1 : (q : Int) < (pn : Int) := by omega
      clear hfn i5 hol h1 h2 h4 h5 h6 h3 hlen hb
      go_wp2_with fail
      have SA : Hid (∀ w', Below V.heap.size V w' → (((fun w' => w'.cell? ⟨w.heap.size, 0, none⟩ = some (.slice (some ⟨b5, o5, none⟩) pn pc) ∧ w'.cell? ⟨b5, o5 + q * 3, none⟩ = some (.int .i64 (an : Int))) w') ∧ ((fun w' => w'.cell? ⟨w3.heap.size, 0, none⟩ = some (.slice va vn vc)) w'))) := hid (fun w' b => ⟨⟨kept_cell b p4, kept_cell b d0⟩, kept_cell b VC.out.1⟩)
      have BC : Below V.heap.size V V := Below.refl _ _
      have SV := hid (And.intro p4 d0)
      clear p4 d0 d1 d2 v0 vf
      refine wp_region_L 17 (fun w' => w'.cell? ⟨w.heap.size, 0, none⟩ = some (.slice (some ⟨b5, o5, none⟩) pn pc) ∧ w'.cell? ⟨b5, o5 + q * 3, none⟩ = some (.int .i64 (an : Int))) (fun w' => w'.cell? ⟨w3.heap.size, 0, none⟩ = some (.slice va vn vc)) (by kernel_rfl) ?_ (fun hH0 => ?_)
      · (try dsimp only); first | (refine SA.out _ ?_; (repeat (first | with_reducible exact BC | with_reducible refine qDrew ?_ | with_reducible refine qAlloc ?_)); done) | exact ⟨⟨P.out.2 _ _ _ (by omega) SV.out.1, P.out.2 _ _ _ (by omega) SV.out.2⟩, q0⟩
      refine wpL_take (i := 0) (oi := ⟨_, _, _, _, _, _⟩) (v := ?_) rfl (by kernel_rfl) (by kernel_rfl) (by kernel_rfl) (by kernel_rfl) (by kernel_rfl) (fun _ _ _ h => h) (Or.inl ⟨by rfl, ?_⟩) (by exact hH0) ?_
      rotate_left
      · (intro x hx; (try dsimp only at hx); go_simp; try (with_reducible rfl))
      try simp only [Act.put, List.setIfInBounds_toArray, List.set_cons_zero, List.set_cons_succ]
      refine wpL_take (i := 1) (oi := ⟨_, _, _, _, _, _⟩) (v := ?_) rfl (by kernel_rfl) (by kernel_rfl) (by kernel_rfl) (by kernel_rfl) (by kernel_rfl) (fun _ _ _ h => h) (Or.inl ⟨by rfl, ?_⟩) (by exact hH0) ?_
      rotate_left
      · (intro x hx; (try dsimp only at hx); go_simp; try (with_reducible rfl))
      try simp only [Act.put, List.setIfInBounds_toArray, List.set_cons_zero, List.set_cons_succ]
      refine wpL_take (i := 2) (oi := ⟨_, _, _, _, _, _⟩) (v := ?_) rfl (by kernel_rfl) (by kernel_rfl) (by kernel_rfl) (by kernel_rfl) (by kernel_rfl) (fun _ _ _ h => h) (Or.inl ⟨by rfl, ?_⟩) (by exact hH0) ?_
      rotate_left
      · (intro x hx; (try dsimp only at hx); go_simp; try (with_reducible rfl))
      try simp only [Act.put, List.setIfInBounds_toArray, List.set_cons_zero, List.set_cons_succ]
      refine wpL_take (i := 4) (oi := ⟨_, _, _, _, _, _⟩) (v := ?_) rfl (by kernel_rfl) (by kernel_rfl) (by kernel_rfl) (by kernel_rfl) (by kernel_rfl) (fun _ _ _ h => h) (Or.inl ⟨by rfl, ?_⟩) (by exact hH0) ?_
      rotate_left
      · (intro x hx; (try dsimp only at hx); go_simp; try (with_reducible rfl))
      try simp only [Act.put, List.setIfInBounds_toArray, List.set_cons_zero, List.set_cons_succ]
      refine wpL_take (i := 6) (oi := ⟨_, _, _, _, _, _⟩) (v := ?_) rfl (by kernel_rfl) (by kernel_rfl) (by kernel_rfl) (by kernel_rfl) (by kernel_rfl) (fun _ _ _ h => h) (Or.inl ⟨by rfl, ?_⟩) (by exact hH0) ?_
      rotate_left
      · (intro x hx; (try dsimp only at hx); go_simp; try (with_reducible rfl))
      try simp only [Act.put, List.setIfInBounds_toArray, List.set_cons_zero, List.set_cons_succ]
      refine wpL_take (i := 7) (oi := ⟨_, _, _, _, _, _⟩) (v := ?_) rfl (by kernel_rfl) (by kernel_rfl) (by kernel_rfl) (by kernel_rfl) (by kernel_rfl) (fun _ _ _ h => h) (Or.inl ⟨by rfl, ?_⟩) (by exact hH0) ?_
      rotate_left
      · (intro x hx; (try dsimp only at hx); go_simp; try (with_reducible rfl))
      try simp only [Act.put, List.setIfInBounds_toArray, List.set_cons_zero, List.set_cons_succ]
      refine wpL_take (i := 8) (oi := ⟨_, _, _, _, _, _⟩) (v := ?_) rfl (by kernel_rfl) (by kernel_rfl) (by kernel_rfl) (by kernel_rfl) (by kernel_rfl) (fun _ _ _ h => h) (Or.inl ⟨by rfl, ?_⟩) (by exact hH0) ?_
      rotate_left
      · (intro x hx; (try dsimp only at hx); go_simp; try (with_reducible rfl))
      try simp only [Act.put, List.setIfInBounds_toArray, List.set_cons_zero, List.set_cons_succ]
      refine wpL_take (i := 9) (oi := ⟨_, _, _, _, _, _⟩) (v := ?_) rfl (by kernel_rfl) (by kernel_rfl) (by kernel_rfl) (by kernel_rfl) (by kernel_rfl) (fun _ _ _ h => h) (Or.inl ⟨by rfl, ?_⟩) (by exact hH0) ?_
      rotate_left
      · (intro x hx; (try dsimp only at hx); go_simp; try (with_reducible rfl))
      try simp only [Act.put, List.setIfInBounds_toArray, List.set_cons_zero, List.set_cons_succ]
      refine wpL_take (i := 10) (oi := ⟨_, _, _, _, _, _⟩) (v := ?_) rfl (by kernel_rfl) (by kernel_rfl) (by kernel_rfl) (by kernel_rfl) (by kernel_rfl) (fun _ _ _ h => h) (Or.inl ⟨by rfl, ?_⟩) (by exact hH0) ?_
      rotate_left
      · (intro x hx; (try dsimp only at hx); go_simp; try (with_reducible rfl))
      try simp only [Act.put, List.setIfInBounds_toArray, List.set_cons_zero, List.set_cons_succ]
      refine wpL_take (i := 11) (oi := ⟨_, _, _, _, _, _⟩) (v := ?_) rfl (by kernel_rfl) (by kernel_rfl) (by kernel_rfl) (by kernel_rfl) (by kernel_rfl) (fun _ _ _ h => h) (Or.inl ⟨by rfl, ?_⟩) (by exact hH0) ?_
      rotate_left
      · (intro x hx; (try dsimp only at hx); go_simp; try (with_reducible rfl))
      try simp only [Act.put, List.setIfInBounds_toArray, List.set_cons_zero, List.set_cons_succ]
      refine wpL_ready (rs := [3, 5, 12]) (by kernel_rfl) (by simp) ?_
      refine eachL_cons (o := ⟨_, _, _, _, _, _⟩) rfl (by rfl) (fun K hK => ?_) ?_
      · skip
        go_simp
        refine hK.out _ _ ?_ (fun hH1 => ?_)
        · (try dsimp only); first | (refine SA.out _ ?_; (repeat (first | with_reducible exact BC | with_reducible refine qDrew ?_ | with_reducible refine qAlloc ?_)); done) | exact ⟨⟨P.out.2 _ _ _ (by omega) SV.out.1, P.out.2 _ _ _ (by omega) SV.out.2⟩, q0⟩
        clear hK K hH0
        try simp only [Act.put, List.setIfInBounds_toArray, List.set_cons_zero, List.set_cons_succ]
        refine wpL_ready (rs := [5, 12]) (by kernel_rfl) (by simp) ?_
        refine eachL_cons (o := ⟨_, _, _, _, _, _⟩) rfl (by rfl) (fun K hK => ?_) ?_
        · skip
          go_simp
          refine hK.out _ _ ?_ (fun hH2 => ?_)
          · (try dsimp only); first | (refine SA.out _ ?_; (repeat (first | with_reducible exact BC | with_reducible refine qDrew ?_ | with_reducible refine qAlloc ?_)); done) | exact ⟨⟨P.out.2 _ _ _ (by omega) SV.out.1, P.out.2 _ _ _ (by omega) SV.out.2⟩, q0⟩
          clear hK K hH1
          try simp only [Act.put, List.setIfInBounds_toArray, List.set_cons_zero, List.set_cons_succ]
          refine wpL_ready (rs := [12]) (by kernel_rfl) (by simp) ?_
          refine eachL_cons (o := ⟨_, _, _, _, _, _⟩) rfl (by rfl) (fun K hK => ?_) ?_
          · skip
            go_simp
            refine hK.out _ _ ?_ (fun hH3 => ?_)
            · (try dsimp only); first | (refine SA.out _ ?_; (repeat (first | with_reducible exact BC | with_reducible refine qDrew ?_ | with_reducible refine qAlloc ?_)); done) | exact ⟨⟨P.out.2 _ _ _ (by omega) SV.out.1, P.out.2 _ _ _ (by omega) SV.out.2⟩, q0⟩
            clear hK K hH2
            try simp only [Act.put, List.setIfInBounds_toArray, List.set_cons_zero, List.set_cons_succ]
            refine wpL_take (i := 13) (oi := ⟨_, _, _, _, _, _⟩) (v := ?_) rfl (by kernel_rfl) (by kernel_rfl) (by kernel_rfl) (by kernel_rfl) (by kernel_rfl) (fun _ _ _ h => h) (Or.inl ⟨by rfl, ?_⟩) (by exact hH3) ?_
            rotate_left
            · (intro x hx; (try dsimp only at hx); go_simp; try (with_reducible rfl))
            try simp only [Act.put, List.setIfInBounds_toArray, List.set_cons_zero, List.set_cons_succ]
            refine wpL_ready (rs := [14]) (by kernel_rfl) (by simp) ?_
            refine eachL_cons (o := ⟨_, _, _, _, _, _⟩) rfl (by rfl) (fun K hK => ?_) ?_
            · skip
              go_simp
              refine hK.out _ _ ?_ (fun hH4 => ?_)
              · (try dsimp only); first | (refine SA.out _ ?_; (repeat (first | with_reducible exact BC | with_reducible refine qDrew ?_ | with_reducible refine qAlloc ?_)); done) | exact ⟨⟨P.out.2 _ _ _ (by omega) SV.out.1, P.out.2 _ _ _ (by omega) SV.out.2⟩, q0⟩
              clear hK K hH3
              try simp only [Act.put, List.setIfInBounds_toArray, List.set_cons_zero, List.set_cons_succ]
              refine wpL_ready (rs := [15]) (by kernel_rfl) (by simp) ?_
              refine eachL_cons (o := ⟨_, _, _, _, _, _⟩) rfl (by rfl) (fun K hK => ?_) ?_
              · skip
                refine step_append_lies _ rfl (.tmp 26) (.tmp 39) 25 rfl 0 51 i0 (.agg #[.int .i64 0, .slice none 0 0, .slice none 0 0, .slice none 0 0]) 4 80 Tryz.underlying25 hi hz0 hz1 hz2 rfl (by decide) (.slice va vn vc) q t.flatten (by simp [Act.eval]) (owns_kept HT2.out (by repeat (first | with_reducible exact BC | with_reducible refine qDrew ?_ | with_reducible refine qAlloc ?_))) ⟨V.heap.size + 1 + 1 + 1, 0, none⟩ 1 1 _ (by simp [Act.eval]) rfl (news_of (by simp) _ 51) (by intro u hu; simp at hu; rcases hu with rfl | rfl | rfl | rfl <;> rfl) (by decide) (by unfold maxLen; omega) (by omega) (Nat.zero_le _) (V.heap.size + 1 + 1 + 1 + 1) (by simp) ?_; intro g' cap' w6 ho6 hg6 hat hlt6; have P := hid (snoc_new (rb := w3.heap.size) ho6 hg6 hat (by simp) (by repeat (first | with_reducible exact BC | with_reducible refine qDrew ?_ | with_reducible refine qAlloc ?_)) hcn han hq8 HLEN.out HT1.out HT2.out HT3.out hsr VC.out.1 VC.out.2 (by (try rw [drew_heap]); (repeat rw [alloc_at, if_neg (by simp only [World.size_alloc]; omega)]); rw [alloc_at, if_pos (by first | rfl | simp only [World.size_alloc])]; try simp) (by (try rw [drew_heap]); (repeat rw [alloc_at, if_neg (by simp only [World.size_alloc]; omega)]); rw [alloc_at, if_pos (by first | rfl | simp only [World.size_alloc])]; try simp) (by (try rw [drew_heap]); (repeat rw [alloc_at, if_neg (by simp only [World.size_alloc]; omega)]); rw [alloc_at, if_pos (by first | rfl | simp only [World.size_alloc])]; try simp) (by omega) (by omega) (by omega) (by omega) (by omega) (by omega)); obtain ⟨q0, qf⟩ := And.intro P.out.1.2.1 P.out.1.2.2.1; have PB := hid (grown_below hg6 (rb := w3.heap.size) (show Below V.heap.size V _ from (by repeat (first | with_reducible exact BC | with_reducible refine qDrew ?_ | with_reducible refine qAlloc ?_))) (fun k hk => (HT3.out.1 k hk).1.1) hsv); have hs6 := hg6.size; clear ho6 hg6 hat hlt6
                refine hK.out _ _ ?_ (fun hH5 => ?_)
                · (try dsimp only); first | (refine SA.out _ ?_; (repeat (first | with_reducible exact BC | with_reducible refine qDrew ?_ | with_reducible refine qAlloc ?_)); done) | exact ⟨⟨P.out.2 _ _ _ (by omega) SV.out.1, P.out.2 _ _ _ (by omega) SV.out.2⟩, q0⟩
                clear hK K hH4
                try simp only [Act.put, List.setIfInBounds_toArray, List.set_cons_zero, List.set_cons_succ]
                refine wpL_take (i := 16) (oi := ⟨_, _, _, _, _, _⟩) (v := ?_) rfl (by kernel_rfl) (by kernel_rfl) (by kernel_rfl) (by kernel_rfl) (by kernel_rfl) (fun _ _ _ h => h) (Or.inl ⟨by rfl, ?_⟩) (by exact hH5) ?_
                rotate_left
                · (intro x hx; (try dsimp only at hx); go_simp; try (with_reducible rfl))
                try simp only [Act.put, List.setIfInBounds_toArray, List.set_cons_zero, List.set_cons_succ]
                refine wpL_ready (rs := [17]) (by kernel_rfl) (by simp) ?_
                refine eachL_last (o := ⟨_, _, _, _, _, _⟩) rfl (fun K hK => ?_)
                go_simp
                refine hK.out _ _ ?_ ?_
                · (try dsimp only); exact ⟨cell_set_far (P.out.2 _ _ _ (by omega) SV.out.1) (by simp; omega), cell_set_far (P.out.2 _ _ _ (by omega) SV.out.2) (by simp; omega)⟩
                clear hK K
                try simp only [Act.put, List.setIfInBounds_toArray, List.set_cons_zero, List.set_cons_succ]
                refine wpL_done (by kernel_rfl) ?_ _
                go_wp2_with fail
                go_roundw
                case rel =>
                  refine ⟨q + 1, _, _, _, by omega, by go_num, World.cell?_setCell_same _ _ _ q0, by simp [qf], ?_, ?_⟩
                  · rw [take_snoc_getD (by have := LP.out; omega) HFN.out, List.map_append]
                    have e : [((an : Int), fy, code)].map newFp = [(0, List.replicate cn 0, List.replicate cn 0, List.replicate an noAp)] := by simp [newFp, CL.out]
                    rw [e]
                    exact P.out.1.1.set _ _ (by simp)
                  · exact (HB.out.trans PB.out).setCell (by simp) _
                case measure => simp [intOf]; omega
              exact eachL_nil
            exact eachL_nil
          exact eachL_nil
        refine eachL_cons (o := ⟨_, _, _, _, _, _⟩) rfl (by rfl) (fun K hK => ?_) ?_
        · skip
          go_simp
          refine hK.out _ _ ?_ (fun hH6 => ?_)
          · (try dsimp only); first | (refine SA.out _ ?_; (repeat (first | with_reducible exact BC | with_reducible refine qDrew ?_ | with_reducible refine qAlloc ?_)); done) | exact ⟨⟨P.out.2 _ _ _ (by omega) SV.out.1, P.out.2 _ _ _ (by omega) SV.out.2⟩, q0⟩
          clear hK K hH1
          try simp only [Act.put, List.setIfInBounds_toArray, List.set_cons_zero, List.set_cons_succ]
          refine wpL_ready (rs := [5]) (by kernel_rfl) (by simp) ?_
          refine eachL_cons (o := ⟨_, _, _, _, _, _⟩) rfl (by rfl) (fun K hK => ?_) ?_
          · skip
            go_simp
            refine hK.out _ _ ?_ (fun hH7 => ?_)
            · (try dsimp only); first | (refine SA.out _ ?_; (repeat (first | with_reducible exact BC | with_reducible refine qDrew ?_ | with_reducible refine qAlloc ?_)); done) | exact ⟨⟨P.out.2 _ _ _ (by omega) SV.out.1, P.out.2 _ _ _ (by omega) SV.out.2⟩, q0⟩
            clear hK K hH6
            try simp only [Act.put, List.setIfInBounds_toArray, List.set_cons_zero, List.set_cons_succ]
            refine wpL_take (i := 13) (oi := ⟨_, _, _, _, _, _⟩) (v := ?_) rfl (by kernel_rfl) (by kernel_rfl) (by kernel_rfl) (by kernel_rfl) (by kernel_rfl) (fun _ _ _ h => h) (Or.inl ⟨by rfl, ?_⟩) (by exact hH7) ?_
            rotate_left
            · (intro x hx; (try dsimp only at hx); go_simp; try (with_reducible rfl))
            try simp only [Act.put, List.setIfInBounds_toArray, List.set_cons_zero, List.set_cons_succ]
            refine wpL_ready (rs := [14]) (by kernel_rfl) (by simp) ?_
            refine eachL_cons (o := ⟨_, _, _, _, _, _⟩) rfl (by rfl) (fun K hK => ?_) ?_
            · skip
              go_simp
              refine hK.out _ _ ?_ (fun hH8 => ?_)
              · (try dsimp only); first | (refine SA.out _ ?_; (repeat (first | with_reducible exact BC | with_reducible refine qDrew ?_ | with_reducible refine qAlloc ?_)); done) | exact ⟨⟨P.out.2 _ _ _ (by omega) SV.out.1, P.out.2 _ _ _ (by omega) SV.out.2⟩, q0⟩
              clear hK K hH7
              try simp only [Act.put, List.setIfInBounds_toArray, List.set_cons_zero, List.set_cons_succ]
              refine wpL_ready (rs := [15]) (by kernel_rfl) (by simp) ?_
              refine eachL_cons (o := ⟨_, _, _, _, _, _⟩) rfl (by rfl) (fun K hK => ?_) ?_
              · skip
                refine step_append_lies _ rfl (.tmp 26) (.tmp 39) 25 rfl 0 51 i0 (.agg #[.int .i64 0, .slice none 0 0, .slice none 0 0, .slice none 0 0]) 4 80 Tryz.underlying25 hi hz0 hz1 hz2 rfl (by decide) (.slice va vn vc) q t.flatten (by simp [Act.eval]) (owns_kept HT2.out (by repeat (first | with_reducible exact BC | with_reducible refine qDrew ?_ | with_reducible refine qAlloc ?_))) ⟨V.heap.size + 1 + 1 + 1, 0, none⟩ 1 1 _ (by simp [Act.eval]) rfl (news_of (by simp) _ 51) (by intro u hu; simp at hu; rcases hu with rfl | rfl | rfl | rfl <;> rfl) (by decide) (by unfold maxLen; omega) (by omega) (Nat.zero_le _) (V.heap.size + 1 + 1 + 1 + 1) (by simp) ?_; intro g' cap' w6 ho6 hg6 hat hlt6; have P := hid (snoc_new (rb := w3.heap.size) ho6 hg6 hat (by simp) (by repeat (first | with_reducible exact BC | with_reducible refine qDrew ?_ | with_reducible refine qAlloc ?_)) hcn han hq8 HLEN.out HT1.out HT2.out HT3.out hsr VC.out.1 VC.out.2 (by (try rw [drew_heap]); (repeat rw [alloc_at, if_neg (by simp only [World.size_alloc]; omega)]); rw [alloc_at, if_pos (by first | rfl | simp only [World.size_alloc])]; try simp) (by (try rw [drew_heap]); (repeat rw [alloc_at, if_neg (by simp only [World.size_alloc]; omega)]); rw [alloc_at, if_pos (by first | rfl | simp only [World.size_alloc])]; try simp) (by (try rw [drew_heap]); (repeat rw [alloc_at, if_neg (by simp only [World.size_alloc]; omega)]); rw [alloc_at, if_pos (by first | rfl | simp only [World.size_alloc])]; try simp) (by omega) (by omega) (by omega) (by omega) (by omega) (by omega)); obtain ⟨q0, qf⟩ := And.intro P.out.1.2.1 P.out.1.2.2.1; have PB := hid (grown_below hg6 (rb := w3.heap.size) (show Below V.heap.size V _ from (by repeat (first | with_reducible exact BC | with_reducible refine qDrew ?_ | with_reducible refine qAlloc ?_))) (fun k hk => (HT3.out.1 k hk).1.1) hsv); have hs6 := hg6.size; clear ho6 hg6 hat hlt6
                refine hK.out _ _ ?_ (fun hH9 => ?_)
                · (try dsimp only); first | (refine SA.out _ ?_; (repeat (first | with_reducible exact BC | with_reducible refine qDrew ?_ | with_reducible refine qAlloc ?_)); done) | exact ⟨⟨P.out.2 _ _ _ (by omega) SV.out.1, P.out.2 _ _ _ (by omega) SV.out.2⟩, q0⟩
                clear hK K hH8
                try simp only [Act.put, List.setIfInBounds_toArray, List.set_cons_zero, List.set_cons_succ]
                refine wpL_take (i := 16) (oi := ⟨_, _, _, _, _, _⟩) (v := ?_) rfl (by kernel_rfl) (by kernel_rfl) (by kernel_rfl) (by kernel_rfl) (by kernel_rfl) (fun _ _ _ h => h) (Or.inl ⟨by rfl, ?_⟩) (by exact hH9) ?_
                rotate_left
                · (intro x hx; (try dsimp only at hx); go_simp; try (with_reducible rfl))
                try simp only [Act.put, List.setIfInBounds_toArray, List.set_cons_zero, List.set_cons_succ]
                refine wpL_ready (rs := [17]) (by kernel_rfl) (by simp) ?_
                refine eachL_last (o := ⟨_, _, _, _, _, _⟩) rfl (fun K hK => ?_)
                go_simp
                refine hK.out _ _ ?_ ?_
                · (try dsimp only); exact ⟨cell_set_far (P.out.2 _ _ _ (by omega) SV.out.1) (by simp; omega), cell_set_far (P.out.2 _ _ _ (by omega) SV.out.2) (by simp; omega)⟩
                clear hK K
                try simp only [Act.put, List.setIfInBounds_toArray, List.set_cons_zero, List.set_cons_succ]
                refine wpL_done (by kernel_rfl) ?_ _
                go_wp2_with fail
                go_roundw
                case rel =>
                  refine ⟨q + 1, _, _, _, by omega, by go_num, World.cell?_setCell_same _ _ _ q0, by simp [qf], ?_, ?_⟩
                  · rw [take_snoc_getD (by have := LP.out; omega) HFN.out, List.map_append]
                    have e : [((an : Int), fy, code)].map newFp = [(0, List.replicate cn 0, List.replicate cn 0, List.replicate an noAp)] := by simp [newFp, CL.out]
                    rw [e]
                    exact P.out.1.1.set _ _ (by simp)
                  · exact (HB.out.trans PB.out).setCell (by simp) _
                case measure => simp [intOf]; omega
              exact eachL_nil
            exact eachL_nil
          exact eachL_nil
        exact eachL_nil
      refine eachL_cons (o := ⟨_, _, _, _, _, _⟩) rfl (by rfl) (fun K hK => ?_) ?_
      · skip
        go_simp
        refine hK.out _ _ ?_ (fun hH10 => ?_)
        · (try dsimp only); first | (refine SA.out _ ?_; (repeat (first | with_reducible exact BC | with_reducible refine qDrew ?_ | with_reducible refine qAlloc ?_)); done) | exact ⟨⟨P.out.2 _ _ _ (by omega) SV.out.1, P.out.2 _ _ _ (by omega) SV.out.2⟩, q0⟩
        clear hK K hH0
        try simp only [Act.put, List.setIfInBounds_toArray, List.set_cons_zero, List.set_cons_succ]
        refine wpL_ready (rs := [3, 12]) (by kernel_rfl) (by simp) ?_
        refine eachL_cons (o := ⟨_, _, _, _, _, _⟩) rfl (by rfl) (fun K hK => ?_) ?_
        · skip
          go_simp
          refine hK.out _ _ ?_ (fun hH11 => ?_)
          · (try dsimp only); first | (refine SA.out _ ?_; (repeat (first | with_reducible exact BC | with_reducible refine qDrew ?_ | with_reducible refine qAlloc ?_)); done) | exact ⟨⟨P.out.2 _ _ _ (by omega) SV.out.1, P.out.2 _ _ _ (by omega) SV.out.2⟩, q0⟩
          clear hK K hH10
          try simp only [Act.put, List.setIfInBounds_toArray, List.set_cons_zero, List.set_cons_succ]
          refine wpL_ready (rs := [12]) (by kernel_rfl) (by simp) ?_
          refine eachL_cons (o := ⟨_, _, _, _, _, _⟩) rfl (by rfl) (fun K hK => ?_) ?_
          · skip
            go_simp
            refine hK.out _ _ ?_ (fun hH12 => ?_)
            · (try dsimp only); first | (refine SA.out _ ?_; (repeat (first | with_reducible exact BC | with_reducible refine qDrew ?_ | with_reducible refine qAlloc ?_)); done) | exact ⟨⟨P.out.2 _ _ _ (by omega) SV.out.1, P.out.2 _ _ _ (by omega) SV.out.2⟩, q0⟩
            clear hK K hH11
            try simp only [Act.put, List.setIfInBounds_toArray, List.set_cons_zero, List.set_cons_succ]
            refine wpL_take (i := 13) (oi := ⟨_, _, _, _, _, _⟩) (v := ?_) rfl (by kernel_rfl) (by kernel_rfl) (by kernel_rfl) (by kernel_rfl) (by kernel_rfl) (fun _ _ _ h => h) (Or.inl ⟨by rfl, ?_⟩) (by exact hH12) ?_
            rotate_left
            · (intro x hx; (try dsimp only at hx); go_simp; try (with_reducible rfl))
            try simp only [Act.put, List.setIfInBounds_toArray, List.set_cons_zero, List.set_cons_succ]
            refine wpL_ready (rs := [14]) (by kernel_rfl) (by simp) ?_
            refine eachL_cons (o := ⟨_, _, _, _, _, _⟩) rfl (by rfl) (fun K hK => ?_) ?_
            · skip
              go_simp
              refine hK.out _ _ ?_ (fun hH13 => ?_)
              · (try dsimp only); first | (refine SA.out _ ?_; (repeat (first | with_reducible exact BC | with_reducible refine qDrew ?_ | with_reducible refine qAlloc ?_)); done) | exact ⟨⟨P.out.2 _ _ _ (by omega) SV.out.1, P.out.2 _ _ _ (by omega) SV.out.2⟩, q0⟩
              clear hK K hH12
              try simp only [Act.put, List.setIfInBounds_toArray, List.set_cons_zero, List.set_cons_succ]
              refine wpL_ready (rs := [15]) (by kernel_rfl) (by simp) ?_
              refine eachL_cons (o := ⟨_, _, _, _, _, _⟩) rfl (by rfl) (fun K hK => ?_) ?_
              · skip
                refine step_append_lies _ rfl (.tmp 26) (.tmp 39) 25 rfl 0 51 i0 (.agg #[.int .i64 0, .slice none 0 0, .slice none 0 0, .slice none 0 0]) 4 80 Tryz.underlying25 hi hz0 hz1 hz2 rfl (by decide) (.slice va vn vc) q t.flatten (by simp [Act.eval]) (owns_kept HT2.out (by repeat (first | with_reducible exact BC | with_reducible refine qDrew ?_ | with_reducible refine qAlloc ?_))) ⟨V.heap.size + 1 + 1 + 1, 0, none⟩ 1 1 _ (by simp [Act.eval]) rfl (news_of (by simp) _ 51) (by intro u hu; simp at hu; rcases hu with rfl | rfl | rfl | rfl <;> rfl) (by decide) (by unfold maxLen; omega) (by omega) (Nat.zero_le _) (V.heap.size + 1 + 1 + 1 + 1) (by simp) ?_; intro g' cap' w6 ho6 hg6 hat hlt6; have P := hid (snoc_new (rb := w3.heap.size) ho6 hg6 hat (by simp) (by repeat (first | with_reducible exact BC | with_reducible refine qDrew ?_ | with_reducible refine qAlloc ?_)) hcn han hq8 HLEN.out HT1.out HT2.out HT3.out hsr VC.out.1 VC.out.2 (by (try rw [drew_heap]); (repeat rw [alloc_at, if_neg (by simp only [World.size_alloc]; omega)]); rw [alloc_at, if_pos (by first | rfl | simp only [World.size_alloc])]; try simp) (by (try rw [drew_heap]); (repeat rw [alloc_at, if_neg (by simp only [World.size_alloc]; omega)]); rw [alloc_at, if_pos (by first | rfl | simp only [World.size_alloc])]; try simp) (by (try rw [drew_heap]); (repeat rw [alloc_at, if_neg (by simp only [World.size_alloc]; omega)]); rw [alloc_at, if_pos (by first | rfl | simp only [World.size_alloc])]; try simp) (by omega) (by omega) (by omega) (by omega) (by omega) (by omega)); obtain ⟨q0, qf⟩ := And.intro P.out.1.2.1 P.out.1.2.2.1; have PB := hid (grown_below hg6 (rb := w3.heap.size) (show Below V.heap.size V _ from (by repeat (first | with_reducible exact BC | with_reducible refine qDrew ?_ | with_reducible refine qAlloc ?_))) (fun k hk => (HT3.out.1 k hk).1.1) hsv); have hs6 := hg6.size; clear ho6 hg6 hat hlt6
                refine hK.out _ _ ?_ (fun hH14 => ?_)
                · (try dsimp only); first | (refine SA.out _ ?_; (repeat (first | with_reducible exact BC | with_reducible refine qDrew ?_ | with_reducible refine qAlloc ?_)); done) | exact ⟨⟨P.out.2 _ _ _ (by omega) SV.out.1, P.out.2 _ _ _ (by omega) SV.out.2⟩, q0⟩
                clear hK K hH13
                try simp only [Act.put, List.setIfInBounds_toArray, List.set_cons_zero, List.set_cons_succ]
                refine wpL_take (i := 16) (oi := ⟨_, _, _, _, _, _⟩) (v := ?_) rfl (by kernel_rfl) (by kernel_rfl) (by kernel_rfl) (by kernel_rfl) (by kernel_rfl) (fun _ _ _ h => h) (Or.inl ⟨by rfl, ?_⟩) (by exact hH14) ?_
                rotate_left
                · (intro x hx; (try dsimp only at hx); go_simp; try (with_reducible rfl))
                try simp only [Act.put, List.setIfInBounds_toArray, List.set_cons_zero, List.set_cons_succ]
                refine wpL_ready (rs := [17]) (by kernel_rfl) (by simp) ?_
                refine eachL_last (o := ⟨_, _, _, _, _, _⟩) rfl (fun K hK => ?_)
                go_simp
                refine hK.out _ _ ?_ ?_
                · (try dsimp only); exact ⟨cell_set_far (P.out.2 _ _ _ (by omega) SV.out.1) (by simp; omega), cell_set_far (P.out.2 _ _ _ (by omega) SV.out.2) (by simp; omega)⟩
                clear hK K
                try simp only [Act.put, List.setIfInBounds_toArray, List.set_cons_zero, List.set_cons_succ]
                refine wpL_done (by kernel_rfl) ?_ _
                go_wp2_with fail
                go_roundw
                case rel =>
                  refine ⟨q + 1, _, _, _, by omega, by go_num, World.cell?_setCell_same _ _ _ q0, by simp [qf], ?_, ?_⟩
                  · rw [take_snoc_getD (by have := LP.out; omega) HFN.out, List.map_append]
                    have e : [((an : Int), fy, code)].map newFp = [(0, List.replicate cn 0, List.replicate cn 0, List.replicate an noAp)] := by simp [newFp, CL.out]
                    rw [e]
                    exact P.out.1.1.set _ _ (by simp)
                  · exact (HB.out.trans PB.out).setCell (by simp) _
                case measure => simp [intOf]; omega
              exact eachL_nil
            exact eachL_nil
          exact eachL_nil
        refine eachL_cons (o := ⟨_, _, _, _, _, _⟩) rfl (by rfl) (fun K hK => ?_) ?_
        · skip
          go_simp
          refine hK.out _ _ ?_ (fun hH15 => ?_)
          · (try dsimp only); first | (refine SA.out _ ?_; (repeat (first | with_reducible exact BC | with_reducible refine qDrew ?_ | with_reducible refine qAlloc ?_)); done) | exact ⟨⟨P.out.2 _ _ _ (by omega) SV.out.1, P.out.2 _ _ _ (by omega) SV.out.2⟩, q0⟩
          clear hK K hH10
          try simp only [Act.put, List.setIfInBounds_toArray, List.set_cons_zero, List.set_cons_succ]
          refine wpL_ready (rs := [3]) (by kernel_rfl) (by simp) ?_
          refine eachL_cons (o := ⟨_, _, _, _, _, _⟩) rfl (by rfl) (fun K hK => ?_) ?_
          · skip
            go_simp
            refine hK.out _ _ ?_ (fun hH16 => ?_)
            · (try dsimp only); first | (refine SA.out _ ?_; (repeat (first | with_reducible exact BC | with_reducible refine qDrew ?_ | with_reducible refine qAlloc ?_)); done) | exact ⟨⟨P.out.2 _ _ _ (by omega) SV.out.1, P.out.2 _ _ _ (by omega) SV.out.2⟩, q0⟩
            clear hK K hH15
            try simp only [Act.put, List.setIfInBounds_toArray, List.set_cons_zero, List.set_cons_succ]
            refine wpL_take (i := 13) (oi := ⟨_, _, _, _, _, _⟩) (v := ?_) rfl (by kernel_rfl) (by kernel_rfl) (by kernel_rfl) (by kernel_rfl) (by kernel_rfl) (fun _ _ _ h => h) (Or.inl ⟨by rfl, ?_⟩) (by exact hH16) ?_
            rotate_left
            · (intro x hx; (try dsimp only at hx); go_simp; try (with_reducible rfl))
            try simp only [Act.put, List.setIfInBounds_toArray, List.set_cons_zero, List.set_cons_succ]
            refine wpL_ready (rs := [14]) (by kernel_rfl) (by simp) ?_
            refine eachL_cons (o := ⟨_, _, _, _, _, _⟩) rfl (by rfl) (fun K hK => ?_) ?_
            · skip
              go_simp
              refine hK.out _ _ ?_ (fun hH17 => ?_)
              · (try dsimp only); first | (refine SA.out _ ?_; (repeat (first | with_reducible exact BC | with_reducible refine qDrew ?_ | with_reducible refine qAlloc ?_)); done) | exact ⟨⟨P.out.2 _ _ _ (by omega) SV.out.1, P.out.2 _ _ _ (by omega) SV.out.2⟩, q0⟩
              clear hK K hH16
              try simp only [Act.put, List.setIfInBounds_toArray, List.set_cons_zero, List.set_cons_succ]
              refine wpL_ready (rs := [15]) (by kernel_rfl) (by simp) ?_
              refine eachL_cons (o := ⟨_, _, _, _, _, _⟩) rfl (by rfl) (fun K hK => ?_) ?_
              · skip
                refine step_append_lies _ rfl (.tmp 26) (.tmp 39) 25 rfl 0 51 i0 (.agg #[.int .i64 0, .slice none 0 0, .slice none 0 0, .slice none 0 0]) 4 80 Tryz.underlying25 hi hz0 hz1 hz2 rfl (by decide) (.slice va vn vc) q t.flatten (by simp [Act.eval]) (owns_kept HT2.out (by repeat (first | with_reducible exact BC | with_reducible refine qDrew ?_ | with_reducible refine qAlloc ?_))) ⟨V.heap.size + 1 + 1 + 1, 0, none⟩ 1 1 _ (by simp [Act.eval]) rfl (news_of (by simp) _ 51) (by intro u hu; simp at hu; rcases hu with rfl | rfl | rfl | rfl <;> rfl) (by decide) (by unfold maxLen; omega) (by omega) (Nat.zero_le _) (V.heap.size + 1 + 1 + 1 + 1) (by simp) ?_; intro g' cap' w6 ho6 hg6 hat hlt6; have P := hid (snoc_new (rb := w3.heap.size) ho6 hg6 hat (by simp) (by repeat (first | with_reducible exact BC | with_reducible refine qDrew ?_ | with_reducible refine qAlloc ?_)) hcn han hq8 HLEN.out HT1.out HT2.out HT3.out hsr VC.out.1 VC.out.2 (by (try rw [drew_heap]); (repeat rw [alloc_at, if_neg (by simp only [World.size_alloc]; omega)]); rw [alloc_at, if_pos (by first | rfl | simp only [World.size_alloc])]; try simp) (by (try rw [drew_heap]); (repeat rw [alloc_at, if_neg (by simp only [World.size_alloc]; omega)]); rw [alloc_at, if_pos (by first | rfl | simp only [World.size_alloc])]; try simp) (by (try rw [drew_heap]); (repeat rw [alloc_at, if_neg (by simp only [World.size_alloc]; omega)]); rw [alloc_at, if_pos (by first | rfl | simp only [World.size_alloc])]; try simp) (by omega) (by omega) (by omega) (by omega) (by omega) (by omega)); obtain ⟨q0, qf⟩ := And.intro P.out.1.2.1 P.out.1.2.2.1; have PB := hid (grown_below hg6 (rb := w3.heap.size) (show Below V.heap.size V _ from (by repeat (first | with_reducible exact BC | with_reducible refine qDrew ?_ | with_reducible refine qAlloc ?_))) (fun k hk => (HT3.out.1 k hk).1.1) hsv); have hs6 := hg6.size; clear ho6 hg6 hat hlt6
                refine hK.out _ _ ?_ (fun hH18 => ?_)
                · (try dsimp only); first | (refine SA.out _ ?_; (repeat (first | with_reducible exact BC | with_reducible refine qDrew ?_ | with_reducible refine qAlloc ?_)); done) | exact ⟨⟨P.out.2 _ _ _ (by omega) SV.out.1, P.out.2 _ _ _ (by omega) SV.out.2⟩, q0⟩
                clear hK K hH17
                try simp only [Act.put, List.setIfInBounds_toArray, List.set_cons_zero, List.set_cons_succ]
                refine wpL_take (i := 16) (oi := ⟨_, _, _, _, _, _⟩) (v := ?_) rfl (by kernel_rfl) (by kernel_rfl) (by kernel_rfl) (by kernel_rfl) (by kernel_rfl) (fun _ _ _ h => h) (Or.inl ⟨by rfl, ?_⟩) (by exact hH18) ?_
                rotate_left
                · (intro x hx; (try dsimp only at hx); go_simp; try (with_reducible rfl))
                try simp only [Act.put, List.setIfInBounds_toArray, List.set_cons_zero, List.set_cons_succ]
                refine wpL_ready (rs := [17]) (by kernel_rfl) (by simp) ?_
                refine eachL_last (o := ⟨_, _, _, _, _, _⟩) rfl (fun K hK => ?_)
                go_simp
                refine hK.out _ _ ?_ ?_
                · (try dsimp only); exact ⟨cell_set_far (P.out.2 _ _ _ (by omega) SV.out.1) (by simp; omega), cell_set_far (P.out.2 _ _ _ (by omega) SV.out.2) (by simp; omega)⟩
                clear hK K
                try simp only [Act.put, List.setIfInBounds_toArray, List.set_cons_zero, List.set_cons_succ]
                refine wpL_done (by kernel_rfl) ?_ _
                go_wp2_with fail
                go_roundw
                case rel =>
                  refine ⟨q + 1, _, _, _, by omega, by go_num, World.cell?_setCell_same _ _ _ q0, by simp [qf], ?_, ?_⟩
                  · rw [take_snoc_getD (by have := LP.out; omega) HFN.out, List.map_append]
                    have e : [((an : Int), fy, code)].map newFp = [(0, List.replicate cn 0, List.replicate cn 0, List.replicate an noAp)] := by simp [newFp, CL.out]
                    rw [e]
                    exact P.out.1.1.set _ _ (by simp)
                  · exact (HB.out.trans PB.out).setCell (by simp) _
                case measure => simp [intOf]; omega
              exact eachL_nil
            exact eachL_nil
          exact eachL_nil
        exact eachL_nil
      refine eachL_cons (o := ⟨_, _, _, _, _, _⟩) rfl (by rfl) (fun K hK => ?_) ?_
      · skip
        go_simp
        refine hK.out _ _ ?_ (fun hH19 => ?_)
        · (try dsimp only); first | (refine SA.out _ ?_; (repeat (first | with_reducible exact BC | with_reducible refine qDrew ?_ | with_reducible refine qAlloc ?_)); done) | exact ⟨⟨P.out.2 _ _ _ (by omega) SV.out.1, P.out.2 _ _ _ (by omega) SV.out.2⟩, q0⟩
        clear hK K hH0
        try simp only [Act.put, List.setIfInBounds_toArray, List.set_cons_zero, List.set_cons_succ]
        refine wpL_ready (rs := [3, 5]) (by kernel_rfl) (by simp) ?_
        refine eachL_cons (o := ⟨_, _, _, _, _, _⟩) rfl (by rfl) (fun K hK => ?_) ?_
        · skip
          go_simp
          refine hK.out _ _ ?_ (fun hH20 => ?_)
          · (try dsimp only); first | (refine SA.out _ ?_; (repeat (first | with_reducible exact BC | with_reducible refine qDrew ?_ | with_reducible refine qAlloc ?_)); done) | exact ⟨⟨P.out.2 _ _ _ (by omega) SV.out.1, P.out.2 _ _ _ (by omega) SV.out.2⟩, q0⟩
          clear hK K hH19
          try simp only [Act.put, List.setIfInBounds_toArray, List.set_cons_zero, List.set_cons_succ]
          refine wpL_ready (rs := [5]) (by kernel_rfl) (by simp) ?_
          refine eachL_cons (o := ⟨_, _, _, _, _, _⟩) rfl (by rfl) (fun K hK => ?_) ?_
          · skip
            go_simp
            refine hK.out _ _ ?_ (fun hH21 => ?_)
            · (try dsimp only); first | (refine SA.out _ ?_; (repeat (first | with_reducible exact BC | with_reducible refine qDrew ?_ | with_reducible refine qAlloc ?_)); done) | exact ⟨⟨P.out.2 _ _ _ (by omega) SV.out.1, P.out.2 _ _ _ (by omega) SV.out.2⟩, q0⟩
            clear hK K hH20
            try simp only [Act.put, List.setIfInBounds_toArray, List.set_cons_zero, List.set_cons_succ]
            refine wpL_take (i := 13) (oi := ⟨_, _, _, _, _, _⟩) (v := ?_) rfl (by kernel_rfl) (by kernel_rfl) (by kernel_rfl) (by kernel_rfl) (by kernel_rfl) (fun _ _ _ h => h) (Or.inl ⟨by rfl, ?_⟩) (by exact hH21) ?_
            rotate_left
            · (intro x hx; (try dsimp only at hx); go_simp; try (with_reducible rfl))
            try simp only [Act.put, List.setIfInBounds_toArray, List.set_cons_zero, List.set_cons_succ]
            refine wpL_ready (rs := [14]) (by kernel_rfl) (by simp) ?_
            refine eachL_cons (o := ⟨_, _, _, _, _, _⟩) rfl (by rfl) (fun K hK => ?_) ?_
            · skip
              go_simp
              refine hK.out _ _ ?_ (fun hH22 => ?_)
              · (try dsimp only); first | (refine SA.out _ ?_; (repeat (first | with_reducible exact BC | with_reducible refine qDrew ?_ | with_reducible refine qAlloc ?_)); done) | exact ⟨⟨P.out.2 _ _ _ (by omega) SV.out.1, P.out.2 _ _ _ (by omega) SV.out.2⟩, q0⟩
              clear hK K hH21
              try simp only [Act.put, List.setIfInBounds_toArray, List.set_cons_zero, List.set_cons_succ]
              refine wpL_ready (rs := [15]) (by kernel_rfl) (by simp) ?_
              refine eachL_cons (o := ⟨_, _, _, _, _, _⟩) rfl (by rfl) (fun K hK => ?_) ?_
              · skip
                refine step_append_lies _ rfl (.tmp 26) (.tmp 39) 25 rfl 0 51 i0 (.agg #[.int .i64 0, .slice none 0 0, .slice none 0 0, .slice none 0 0]) 4 80 Tryz.underlying25 hi hz0 hz1 hz2 rfl (by decide) (.slice va vn vc) q t.flatten (by simp [Act.eval]) (owns_kept HT2.out (by repeat (first | with_reducible exact BC | with_reducible refine qDrew ?_ | with_reducible refine qAlloc ?_))) ⟨V.heap.size + 1 + 1 + 1, 0, none⟩ 1 1 _ (by simp [Act.eval]) rfl (news_of (by simp) _ 51) (by intro u hu; simp at hu; rcases hu with rfl | rfl | rfl | rfl <;> rfl) (by decide) (by unfold maxLen; omega) (by omega) (Nat.zero_le _) (V.heap.size + 1 + 1 + 1 + 1) (by simp) ?_; intro g' cap' w6 ho6 hg6 hat hlt6; have P := hid (snoc_new (rb := w3.heap.size) ho6 hg6 hat (by simp) (by repeat (first | with_reducible exact BC | with_reducible refine qDrew ?_ | with_reducible refine qAlloc ?_)) hcn han hq8 HLEN.out HT1.out HT2.out HT3.out hsr VC.out.1 VC.out.2 (by (try rw [drew_heap]); (repeat rw [alloc_at, if_neg (by simp only [World.size_alloc]; omega)]); rw [alloc_at, if_pos (by first | rfl | simp only [World.size_alloc])]; try simp) (by (try rw [drew_heap]); (repeat rw [alloc_at, if_neg (by simp only [World.size_alloc]; omega)]); rw [alloc_at, if_pos (by first | rfl | simp only [World.size_alloc])]; try simp) (by (try rw [drew_heap]); (repeat rw [alloc_at, if_neg (by simp only [World.size_alloc]; omega)]); rw [alloc_at, if_pos (by first | rfl | simp only [World.size_alloc])]; try simp) (by omega) (by omega) (by omega) (by omega) (by omega) (by omega)); obtain ⟨q0, qf⟩ := And.intro P.out.1.2.1 P.out.1.2.2.1; have PB := hid (grown_below hg6 (rb := w3.heap.size) (show Below V.heap.size V _ from (by repeat (first | with_reducible exact BC | with_reducible refine qDrew ?_ | with_reducible refine qAlloc ?_))) (fun k hk => (HT3.out.1 k hk).1.1) hsv); have hs6 := hg6.size; clear ho6 hg6 hat hlt6
                refine hK.out _ _ ?_ (fun hH23 => ?_)
                · (try dsimp only); first | (refine SA.out _ ?_; (repeat (first | with_reducible exact BC | with_reducible refine qDrew ?_ | with_reducible refine qAlloc ?_)); done) | exact ⟨⟨P.out.2 _ _ _ (by omega) SV.out.1, P.out.2 _ _ _ (by omega) SV.out.2⟩, q0⟩
                clear hK K hH22
                try simp only [Act.put, List.setIfInBounds_toArray, List.set_cons_zero, List.set_cons_succ]
                refine wpL_take (i := 16) (oi := ⟨_, _, _, _, _, _⟩) (v := ?_) rfl (by kernel_rfl) (by kernel_rfl) (by kernel_rfl) (by kernel_rfl) (by kernel_rfl) (fun _ _ _ h => h) (Or.inl ⟨by rfl, ?_⟩) (by exact hH23) ?_
                rotate_left
                · (intro x hx; (try dsimp only at hx); go_simp; try (with_reducible rfl))
                try simp only [Act.put, List.setIfInBounds_toArray, List.set_cons_zero, List.set_cons_succ]
                refine wpL_ready (rs := [17]) (by kernel_rfl) (by simp) ?_
                refine eachL_last (o := ⟨_, _, _, _, _, _⟩) rfl (fun K hK => ?_)
                go_simp
                refine hK.out _ _ ?_ ?_
                · (try dsimp only); exact ⟨cell_set_far (P.out.2 _ _ _ (by omega) SV.out.1) (by simp; omega), cell_set_far (P.out.2 _ _ _ (by omega) SV.out.2) (by simp; omega)⟩
                clear hK K
                try simp only [Act.put, List.setIfInBounds_toArray, List.set_cons_zero, List.set_cons_succ]
                refine wpL_done (by kernel_rfl) ?_ _
                go_wp2_with fail
                go_roundw
                case rel =>
                  refine ⟨q + 1, _, _, _, by omega, by go_num, World.cell?_setCell_same _ _ _ q0, by simp [qf], ?_, ?_⟩
                  · rw [take_snoc_getD (by have := LP.out; omega) HFN.out, List.map_append]
                    have e : [((an : Int), fy, code)].map newFp = [(0, List.replicate cn 0, List.replicate cn 0, List.replicate an noAp)] := by simp [newFp, CL.out]
                    rw [e]
                    exact P.out.1.1.set _ _ (by simp)
                  · exact (HB.out.trans PB.out).setCell (by simp) _
                case measure => simp [intOf]; omega
              exact eachL_nil
            exact eachL_nil
          exact eachL_nil
        refine eachL_cons (o := ⟨_, _, _, _, _, _⟩) rfl (by rfl) (fun K hK => ?_) ?_
        · skip
          go_simp
          refine hK.out _ _ ?_ (fun hH24 => ?_)
          · (try dsimp only); first | (refine SA.out _ ?_; (repeat (first | with_reducible exact BC | with_reducible refine qDrew ?_ | with_reducible refine qAlloc ?_)); done) | exact ⟨⟨P.out.2 _ _ _ (by omega) SV.out.1, P.out.2 _ _ _ (by omega) SV.out.2⟩, q0⟩
          clear hK K hH19
          try simp only [Act.put, List.setIfInBounds_toArray, List.set_cons_zero, List.set_cons_succ]
          refine wpL_ready (rs := [3]) (by kernel_rfl) (by simp) ?_
          refine eachL_cons (o := ⟨_, _, _, _, _, _⟩) rfl (by rfl) (fun K hK => ?_) ?_
          · skip
            go_simp
            refine hK.out _ _ ?_ (fun hH25 => ?_)
            · (try dsimp only); first | (refine SA.out _ ?_; (repeat (first | with_reducible exact BC | with_reducible refine qDrew ?_ | with_reducible refine qAlloc ?_)); done) | exact ⟨⟨P.out.2 _ _ _ (by omega) SV.out.1, P.out.2 _ _ _ (by omega) SV.out.2⟩, q0⟩
            clear hK K hH24
            try simp only [Act.put, List.setIfInBounds_toArray, List.set_cons_zero, List.set_cons_succ]
            refine wpL_take (i := 13) (oi := ⟨_, _, _, _, _, _⟩) (v := ?_) rfl (by kernel_rfl) (by kernel_rfl) (by kernel_rfl) (by kernel_rfl) (by kernel_rfl) (fun _ _ _ h => h) (Or.inl ⟨by rfl, ?_⟩) (by exact hH25) ?_
            rotate_left
            · (intro x hx; (try dsimp only at hx); go_simp; try (with_reducible rfl))
            try simp only [Act.put, List.setIfInBounds_toArray, List.set_cons_zero, List.set_cons_succ]
            refine wpL_ready (rs := [14]) (by kernel_rfl) (by simp) ?_
            refine eachL_cons (o := ⟨_, _, _, _, _, _⟩) rfl (by rfl) (fun K hK => ?_) ?_
            · skip
              go_simp
              refine hK.out _ _ ?_ (fun hH26 => ?_)
              · (try dsimp only); first | (refine SA.out _ ?_; (repeat (first | with_reducible exact BC | with_reducible refine qDrew ?_ | with_reducible refine qAlloc ?_)); done) | exact ⟨⟨P.out.2 _ _ _ (by omega) SV.out.1, P.out.2 _ _ _ (by omega) SV.out.2⟩, q0⟩
              clear hK K hH25
              try simp only [Act.put, List.setIfInBounds_toArray, List.set_cons_zero, List.set_cons_succ]
              refine wpL_ready (rs := [15]) (by kernel_rfl) (by simp) ?_
              refine eachL_cons (o := ⟨_, _, _, _, _, _⟩) rfl (by rfl) (fun K hK => ?_) ?_
              · skip
                refine step_append_lies _ rfl (.tmp 26) (.tmp 39) 25 rfl 0 51 i0 (.agg #[.int .i64 0, .slice none 0 0, .slice none 0 0, .slice none 0 0]) 4 80 Tryz.underlying25 hi hz0 hz1 hz2 rfl (by decide) (.slice va vn vc) q t.flatten (by simp [Act.eval]) (owns_kept HT2.out (by repeat (first | with_reducible exact BC | with_reducible refine qDrew ?_ | with_reducible refine qAlloc ?_))) ⟨V.heap.size + 1 + 1 + 1, 0, none⟩ 1 1 _ (by simp [Act.eval]) rfl (news_of (by simp) _ 51) (by intro u hu; simp at hu; rcases hu with rfl | rfl | rfl | rfl <;> rfl) (by decide) (by unfold maxLen; omega) (by omega) (Nat.zero_le _) (V.heap.size + 1 + 1 + 1 + 1) (by simp) ?_; intro g' cap' w6 ho6 hg6 hat hlt6; have P := hid (snoc_new (rb := w3.heap.size) ho6 hg6 hat (by simp) (by repeat (first | with_reducible exact BC | with_reducible refine qDrew ?_ | with_reducible refine qAlloc ?_)) hcn han hq8 HLEN.out HT1.out HT2.out HT3.out hsr VC.out.1 VC.out.2 (by (try rw [drew_heap]); (repeat rw [alloc_at, if_neg (by simp only [World.size_alloc]; omega)]); rw [alloc_at, if_pos (by first | rfl | simp only [World.size_alloc])]; try simp) (by (try rw [drew_heap]); (repeat rw [alloc_at, if_neg (by simp only [World.size_alloc]; omega)]); rw [alloc_at, if_pos (by first | rfl | simp only [World.size_alloc])]; try simp) (by (try rw [drew_heap]); (repeat rw [alloc_at, if_neg (by simp only [World.size_alloc]; omega)]); rw [alloc_at, if_pos (by first | rfl | simp only [World.size_alloc])]; try simp) (by omega) (by omega) (by omega) (by omega) (by omega) (by omega)); obtain ⟨q0, qf⟩ := And.intro P.out.1.2.1 P.out.1.2.2.1; have PB := hid (grown_below hg6 (rb := w3.heap.size) (show Below V.heap.size V _ from (by repeat (first | with_reducible exact BC | with_reducible refine qDrew ?_ | with_reducible refine qAlloc ?_))) (fun k hk => (HT3.out.1 k hk).1.1) hsv); have hs6 := hg6.size; clear ho6 hg6 hat hlt6
                refine hK.out _ _ ?_ (fun hH27 => ?_)
                · (try dsimp only); first | (refine SA.out _ ?_; (repeat (first | with_reducible exact BC | with_reducible refine qDrew ?_ | with_reducible refine qAlloc ?_)); done) | exact ⟨⟨P.out.2 _ _ _ (by omega) SV.out.1, P.out.2 _ _ _ (by omega) SV.out.2⟩, q0⟩
                clear hK K hH26
                try simp only [Act.put, List.setIfInBounds_toArray, List.set_cons_zero, List.set_cons_succ]
                refine wpL_take (i := 16) (oi := ⟨_, _, _, _, _, _⟩) (v := ?_) rfl (by kernel_rfl) (by kernel_rfl) (by kernel_rfl) (by kernel_rfl) (by kernel_rfl) (fun _ _ _ h => h) (Or.inl ⟨by rfl, ?_⟩) (by exact hH27) ?_
                rotate_left
                · (intro x hx; (try dsimp only at hx); go_simp; try (with_reducible rfl))
                try simp only [Act.put, List.setIfInBounds_toArray, List.set_cons_zero, List.set_cons_succ]
                refine wpL_ready (rs := [17]) (by kernel_rfl) (by simp) ?_
                refine eachL_last (o := ⟨_, _, _, _, _, _⟩) rfl (fun K hK => ?_)
                go_simp
                refine hK.out _ _ ?_ ?_
                · (try dsimp only); exact ⟨cell_set_far (P.out.2 _ _ _ (by omega) SV.out.1) (by simp; omega), cell_set_far (P.out.2 _ _ _ (by omega) SV.out.2) (by simp; omega)⟩
                clear hK K
                try simp only [Act.put, List.setIfInBounds_toArray, List.set_cons_zero, List.set_cons_succ]
                refine wpL_done (by kernel_rfl) ?_ _
                go_wp2_with fail
                go_roundw
                case rel =>
                  refine ⟨q + 1, _, _, _, by omega, by go_num, World.cell?_setCell_same _ _ _ q0, by simp [qf], ?_, ?_⟩
                  · rw [take_snoc_getD (by have := LP.out; omega) HFN.out, List.map_append]
                    have e : [((an : Int), fy, code)].map newFp = [(0, List.replicate cn 0, List.replicate cn 0, List.replicate an noAp)] := by simp [newFp, CL.out]
                    rw [e]
                    exact P.out.1.1.set _ _ (by simp)
                  · exact (HB.out.trans PB.out).setCell (by simp) _
                case measure => simp [intOf]; omega
              exact eachL_nil
            exact eachL_nil
          exact eachL_nil
        exact eachL_nil
      exact eachL_nil
    · have hqn : q = pn := by omega
      subst hqn
      have r4 := kept_cell hb R3.out.1
      have f4 := (hb.frozen (p := ⟨w.heap.size + 1, 0, none⟩) (lt_of_cell R3.out.1)).trans R3.out.2
      have e : (ps.take q).map newFp = newP ps := by rw [newP, if_pos HV.out, List.take_of_length_le (by have := LP.out; omega)]
      have HE := hid e
      clear e hb
      go_wp2_with fail
      refine bodyPost_ret (v := .tuple #[.agg #[.slice va vn vc], .int .i64 0]) (by simp [results, Tryz.results9, go_sem, r4]) rfl ⟨.slice va vn vc, by simp only [newE, if_pos HV.out], ?_, (kt B3.out HB.out).setCell (by simp) _⟩
      have o := HO.out
      rw [HE.out] at o
      exact (o.set _ _ (by simp; omega)).sub (fun b hb _ => by have hb' : w3.heap.size < b := hb; show w.heap.size ≤ b; omega)

end Go.Proofs.YtppmkoigblimmaaGreatDoor

namespace Go.Proofs.YtppmkoigblimmaaGreatDoor
open Go.RowKit
set_option linter.unusedVariables false

set_option maxRecDepth 100000 in
set_option maxHeartbeats 8000000 in
theorem refCopyProf_any (ra : Option Addr) (rn rc : Nat) (l : List Fp) (w : World) (h : Sl layFp 80 w ra rn rc l) :
    Calls Tryz.prog 27 #[.agg #[.slice ra rn rc]] w fun e w' => ∃ v, e = .returned (.agg #[v]) ∧ OSl layFp 51 80 w' (fun b => w.heap.size ≤ b) v l ∧ Below w.heap.size w w' := by
  obtain ⟨i0, hi, hz0, hz1, hz2⟩ := info_parts Tryz.infoFuncProf
  obtain ⟨j0, hj, jz0, jz1, jz2⟩ := info_parts Tryz.infoIntM
  obtain ⟨k0, hk, kz0, kz1, kz2⟩ := info_parts Tryz.infoArgProfs
  have L := hid h.len
  have hr := h.room
  have hc := h.cap
  have H := hid h
  clear h
  have W3 : Hid (∃ U : World, U = ((w.alloc (.cells #[.slice ra rn rc] 27)).alloc (.cells #[.slice none 0 0] 27)).alloc (.cells #[.slice none 0 0] 27)) := hid ⟨_, rfl⟩
  obtain ⟨w3, hw3⟩ := W3.out
  have B3 : Hid (Below w.heap.size w w3) := hid (by rw [hw3]; exact Below.alloc (Below.alloc (Below.alloc (Below.refl _ _) (Nat.le_refl _) _) (by simp) _) (by simp; omega) _)
  have R3 : Hid (w3.cell? ⟨w.heap.size, 0, none⟩ = some (.slice ra rn rc)) := hid (by rw [hw3]; simp [go_sem])
  have Q3 : Hid (w3.cell? ⟨w.heap.size + 1, 0, none⟩ = some (.slice none 0 0) ∧ w3.frozen? ⟨w.heap.size + 1, 0, none⟩ = false) := hid (by rw [hw3]; exact ⟨by simp [go_sem], by simp [go_sem]⟩)
  have V3 : Hid (w3.cell? ⟨w.heap.size + 1 + 1, 0, none⟩ = some (.slice none 0 0) ∧ w3.frozen? ⟨w.heap.size + 1 + 1, 0, none⟩ = false) := hid (by rw [hw3]; exact ⟨by simp [go_sem], by simp [go_sem]⟩)
  have hs3 : w3.heap.size = w.heap.size + 3 := by rw [hw3]; simp
  have HS3 := hid hs3
  have E3 := hid hw3
  clear hw3 W3 hs3
  go_enter Tryz.func27, Tryz.ntmps27
  go_wp2_with fail
  refine wp_world (U := w3) (by rw [E3.out]) ?_
  go_loopw [4] (fun i wr => ∃ (q : Nat) (va : Option Addr) (vn vc : Nat), q ≤ rn ∧ i = .int .i64 q ∧ wr.cell? ⟨w.heap.size + 1 + 1, 0, none⟩ = some (.slice va vn vc) ∧ wr.frozen? ⟨w.heap.size + 1 + 1, 0, none⟩ = false ∧ OSl layFp 51 80 wr (fun b => w.heap.size + 2 < b) (.slice va vn vc) (l.take q) ∧ Below (w.heap.size + 2) w3 wr) (fun i _ => rn - (intOf i).toNat)
  case atStart => exact ⟨0, none, 0, 0, Nat.zero_le _, rfl, V3.out.1, V3.out.2, OSl.nil _ _ _ _ _, Below.refl _ _⟩
  case round =>
    clear E3 V3
    obtain ⟨q, va, vn, vc, hq, rfl, v0, vf, ho, hb⟩ := hrel
    obtain ⟨V, hV⟩ : ∃ V : World, V = wr := ⟨_, rfl⟩
    subst hV
    have HO := hid ho
    have HB := hid hb
    have VC := hid (And.intro v0 vf)
    have r4 : V.cell? ⟨w.heap.size, 0, none⟩ = some (.slice ra rn rc) := (hb.cell (p := ⟨w.heap.size, 0, none⟩) (by show w.heap.size < w.heap.size + 2; omega)).trans R3.out
    have hsv : w.heap.size + 3 ≤ V.heap.size := by have := hb.size; have := HS3.out; omega
    have BW : Hid (Below w.heap.size w V) := hid (B3.out.trans (hb.mono (by omega)))
    clear ho
    by_cases hlt : q < rn
    · obtain ⟨b0, o0, x, ja, jn, jc, jl, fa, fn, fc, fl, aa, an, ac, al, rfl, hx, c0, c1, c2, c3, i1, i2, i3⟩ := fp_at (H.out.kept BW.out) q hlt
      have HX := hid hx
      obtain ⟨U0, hU0⟩ : ∃ U : World, U = V.alloc (.cells #[.int .i64 x, .slice ja jn jc, .slice fa fn fc, .slice aa an ac] 51) := ⟨_, rfl⟩
      have L0 : Hid (Below V.heap.size V U0) := hid (by rw [hU0]; exact Below.alloc (Below.refl _ _) (Nat.le_refl _) _)
      have h0 : U0.heap[V.heap.size]? = some (.cells #[.int .i64 x, .slice ja jn jc, .slice fa fn fc, .slice aa an ac] 51) := by rw [hU0]; exact heap_alloc_new _ _
      have hu0 : U0.heap.size = V.heap.size + 1 := by rw [hU0]; simp
      have I1 := hid i1
      have I2 := hid i2
      have I3 := hid i3
      have EU := hid hU0
      have HU0 := hid hu0
      clear hx i1 i2 i3 hU0 hb hu0
      go_upto_region 6 with fail
      refine wp_world (U := U0) EU.out ?_
      clear c0 c1 c2 c3 r4 v0 vf
      have e1 : (U0.alloc (.cells #[] 3)).cell? ⟨V.heap.size, 1, none⟩ = some (.slice ja jn jc) := kept_cell (Below.alloc (Below.refl _ _) (Nat.le_refl _) _) (cell_of_heap (j := 1) h0 rfl).1
      go_upto_region 7 with (at_builtin; refine wpList_copyF flatI 3 28 8 j0 (.int .i64 0) Tryz.underlying28 hj jz0 jz1 jz2 rfl (by decide) (by decide) U0 _ rfl _ _ rfl rfl U0.heap.size rfl rfl _ _ _ jl rfl (I1.out.sl.kept L0.out) ?_; intro a1 n1 m1 w1 o1 b1; have g1 := heap_kept h0 b1; have c1 := (cell_of_heap (j := 1) g1 rfl); obtain ⟨c1, d1⟩ := c1; have O1 := hid o1; have B1 := hid b1; have G1 := hid g1; clear o1 b1 g1)
      obtain ⟨U1, hU1⟩ : ∃ U : World, U = w1.setCell ⟨V.heap.size, 1, none⟩ (.slice a1 n1 m1) := ⟨_, rfl⟩
      refine wp_world (U := U1) (by rw [hU1]) ?_
      have h1 : U1.heap[V.heap.size]? = some (.cells #[.int .i64 x, .slice a1 n1 m1, .slice fa fn fc, .slice aa an ac] 51) := by rw [hU1]; exact heap_setCell_same _ _ 1 _ _ _ G1.out
      have L1 : Hid (Below V.heap.size V U1) := hid (by rw [hU1]; exact (kt L0.out B1.out).setCell (Nat.le_refl _) _)
      have S1 : Hid (U1.heap.size = w1.heap.size ∧ U0.heap.size ≤ w1.heap.size ∧ ∀ b, b ≠ V.heap.size → U1.heap[b]? = w1.heap[b]?) := hid ⟨by rw [hU1]; simp, B1.out.size, fun b hb => by rw [hU1]; exact Below.heap_setCell _ _ _ b hb⟩
      clear hU1 c1 d1 e1
      have e2 : (U1.alloc (.cells #[] 3)).cell? ⟨V.heap.size, 2, none⟩ = some (.slice fa fn fc) := kept_cell (Below.alloc (Below.refl _ _) (Nat.le_refl _) _) (cell_of_heap (j := 2) h1 rfl).1
      go_upto_region 8 with (at_builtin; refine wpList_copyF flatI 3 28 8 j0 (.int .i64 0) Tryz.underlying28 hj jz0 jz1 jz2 rfl (by decide) (by decide) U1 _ rfl _ _ rfl rfl U1.heap.size rfl rfl _ _ _ fl rfl (I2.out.sl.kept L1.out) ?_; intro a2 n2 m2 w2 o2 b2; have g2 := heap_kept h1 b2; have c2 := (cell_of_heap (j := 2) g2 rfl); obtain ⟨c2, d2⟩ := c2; have O2 := hid o2; have B2 := hid b2; have G2 := hid g2; clear o2 b2 g2)
      obtain ⟨U2, hU2⟩ : ∃ U : World, U = w2.setCell ⟨V.heap.size, 2, none⟩ (.slice a2 n2 m2) := ⟨_, rfl⟩
      refine wp_world (U := U2) (by rw [hU2]) ?_
      have h2 : U2.heap[V.heap.size]? = some (.cells #[.int .i64 x, .slice a1 n1 m1, .slice a2 n2 m2, .slice aa an ac] 51) := by rw [hU2]; exact heap_setCell_same _ _ 2 _ _ _ G2.out
      have L2 : Hid (Below V.heap.size V U2) := hid (by rw [hU2]; exact (kt L1.out B2.out).setCell (Nat.le_refl _) _)
      have S2 : Hid (U2.heap.size = w2.heap.size ∧ U1.heap.size ≤ w2.heap.size ∧ ∀ b, b ≠ V.heap.size → U2.heap[b]? = w2.heap[b]?) := hid ⟨by rw [hU2]; simp, B2.out.size, fun b hb => by rw [hU2]; exact Below.heap_setCell _ _ _ b hb⟩
      clear hU2 c2 d2 e2
      have e3 : (U2.alloc (.cells #[] 53)).cell? ⟨V.heap.size, 3, none⟩ = some (.slice aa an ac) := kept_cell (Below.alloc (Below.refl _ _) (Nat.le_refl _) _) (cell_of_heap (j := 3) h2 rfl).1
      go_upto_region 9 with (at_builtin; refine wpList_copyF flatArgProfs 53 49 24 k0 (.agg #[.int .i64 0, .int .i64 0, .int .i64 0]) Tryz.underlying49 hk kz0 kz1 kz2 rfl (by decide) (by decide) U2 _ rfl _ _ rfl rfl U2.heap.size rfl rfl _ _ _ al rfl (I3.out.kept L2.out) ?_; intro a3 n3 m3 w3 o3 b3; have g3 := heap_kept h2 b3; have c3 := (cell_of_heap (j := 3) g3 rfl); obtain ⟨c3, d3⟩ := c3; have O3 := hid o3; have B3 := hid b3; have G3 := hid g3; clear o3 b3 g3)
      obtain ⟨U3, hU3⟩ : ∃ U : World, U = w3.setCell ⟨V.heap.size, 3, none⟩ (.slice a3 n3 m3) := ⟨_, rfl⟩
      refine wp_world (U := U3) (by rw [hU3]) ?_
      have h3 : U3.heap[V.heap.size]? = some (.cells #[.int .i64 x, .slice a1 n1 m1, .slice a2 n2 m2, .slice a3 n3 m3] 51) := by rw [hU3]; exact heap_setCell_same _ _ 3 _ _ _ G3.out
      have L3 : Hid (Below V.heap.size V U3) := hid (by rw [hU3]; exact (kt L2.out B3.out).setCell (Nat.le_refl _) _)
      have S3 : Hid (U3.heap.size = w3.heap.size ∧ U2.heap.size ≤ w3.heap.size ∧ ∀ b, b ≠ V.heap.size → U3.heap[b]? = w3.heap[b]?) := hid ⟨by rw [hU3]; simp, B3.out.size, fun b hb => by rw [hU3]; exact Below.heap_setCell _ _ _ b hb⟩
      clear hU3 c3 d3 e3
      have c0 := (cell_of_heap (j := 0) h3 rfl).1
      have c1 := (cell_of_heap (j := 1) h3 rfl).1
      have c2 := (cell_of_heap (j := 2) h3 rfl).1
      have c3 := (cell_of_heap (j := 3) h3 rfl).1
      have v3 := kept_cell L3.out VC.out.1
      have hA4 : Below U3.heap.size U3 (U3.alloc (.cells #[.int .i64 x, .slice a1 n1 m1, .slice a2 n2 m2, .slice a3 n3 m3] 51)) := Below.alloc (Below.refl _ _) (Nat.le_refl _) _
      have OX : Hid (layFp.owns (U3.alloc (.cells #[.int .i64 x, .slice a1 n1 m1, .slice a2 n2 m2, .slice a3 n3 m3] 51)) (fun b => (U0.heap.size ≤ b ∧ b < w1.heap.size) ∨ (U1.heap.size ≤ b ∧ b < w2.heap.size) ∨ U2.heap.size ≤ b) [.int .i64 x, .slice a1 n1 m1, .slice a2 n2 m2, .slice a3 n3 m3] (x, jl, fl, al)) := hid (by
        have hu := HU0.out
        have s1 := S1.out
        have s2 := S2.out
        have s3 := S3.out
        have o1 := (O1.out.frm (w' := U1) (fun b hb _ => s1.2.2 b (by omega))).sub (B' := fun b => U0.heap.size ≤ b ∧ b < w1.heap.size) (fun b hb hl => ⟨hb, by omega⟩)
        have o1' := row_on (row_on o1 B2.out s2.2.2 (by omega)) B3.out s3.2.2 (by omega)
        have o2 := (O2.out.frm (w' := U2) (fun b hb _ => s2.2.2 b (by omega))).sub (B' := fun b => U1.heap.size ≤ b ∧ b < w2.heap.size) (fun b hb hl => ⟨hb, by omega⟩)
        have o2' := row_on o2 B3.out s3.2.2 (by omega)
        have o3 := O3.out.frm (w' := U3) (fun b hb _ => s3.2.2 b (by omega))
        exact fp_owns (o1'.kept hA4) (o2'.kept hA4) (o3.kept hA4) (fun b h k => by omega) (fun b h k => by omega) (fun b h k => by omega))
      have L4 := hid (kt L3.out hA4)
      obtain ⟨hol, t, F, k1, k2, k4, k5, k6, k3⟩ := HO.out.clip
      have hlen : (l.take q).length = q := by rw [List.length_take]; have := L.out; omega
      rw [hlen] at k1 k2
      have HT1 := hid k1
      have HT2 := hid k2
      have HT3 := hid (And.intro k4 (And.intro k5 (And.intro k6 k3)))
      have HLEN := hid hlen
      have NB : Hid (∀ b, U0.heap.size ≤ b ∨ U1.heap.size ≤ b ∨ U2.heap.size ≤ b → V.heap.size ≤ b) := hid (fun b hb => by have hu := HU0.out; have s1 := S1.out; have s2 := S2.out; rcases hb with h | h | h <;> omega)
      clear hA4 hol k1 k2 k4 k5 k6 k3 hlen h0 h1 h2 h3
      go_wp2_with (at_builtin; refine wpList_append_lies _ rfl _ _ 25 rfl 0 51 i0 (.agg #[.int .i64 0, .slice none 0 0, .slice none 0 0, .slice none 0 0]) 4 80 Tryz.underlying25 hi hz0 hz1 hz2 rfl (by decide) (.slice va vn vc) q t.flatten rfl (owns_kept HT2.out L4.out) ⟨U3.heap.size, 0, none⟩ 1 1 [.int .i64 x, .slice a1 n1 m1, .slice a2 n2 m2, .slice a3 n3 m3] rfl rfl (news_of rfl _ 51) (by intro u hu; simp at hu; rcases hu with rfl | rfl | rfl | rfl <;> rfl) (by decide) (by unfold maxLen; omega) (by omega) (Nat.zero_le _) (U3.heap.size + 1) (by simp) ?_; intro g cap w6 ho6 hg6 hat hlt6; have P := hid (snoc_fp (rb := w.heap.size + 1 + 1) (by omega) ho6 hg6 (by simpa using hat) L4.out OX.out (fun b hb => NB.out b (by rcases hb with h | h | h; exact .inl h.1; exact .inr (.inl h.1); exact .inr (.inr h))) HLEN.out HT1.out HT2.out HT3.out (by omega) VC.out.1 VC.out.2); obtain ⟨q0, qf⟩ := And.intro P.out.2.1 P.out.2.2; have PB := hid (grown_below hg6 (rb := w.heap.size + 2) L4.out (fun k hk => (HT3.out.1 k hk).1.1) (by omega)); clear ho6 hg6 hat hlt6)
      go_roundw
      case rel =>
        refine ⟨q + 1, _, _, _, by omega, by go_num, World.cell?_setCell_same _ _ _ q0, by simp [qf], ?_, (HB.out.trans PB.out).setCell (by simp) _⟩
        rw [List.take_add_one, HX.out]
        exact P.out.1.set _ _ (by simp)
      case measure => simp [intOf]; omega
    · have hqn : q = rn := by omega
      subst hqn
      have q4 : V.cell? ⟨w.heap.size + 1, 0, none⟩ = some (.slice none 0 0) := (hb.cell (p := ⟨w.heap.size + 1, 0, none⟩) (by show w.heap.size + 1 < w.heap.size + 2; omega)).trans Q3.out.1
      have qf : V.frozen? ⟨w.heap.size + 1, 0, none⟩ = false := (hb.frozen (p := ⟨w.heap.size + 1, 0, none⟩) (by show w.heap.size + 1 < w.heap.size + 2; omega)).trans Q3.out.2
      clear hb
      go_wp2_with fail
      refine bodyPost_ret (v := .agg #[.slice va vn vc]) (by simp [results, Tryz.results27, go_sem, q4]) rfl ⟨_, rfl, ?_, BW.out.setCell (by simp) _⟩
      have o := HO.out
      rw [List.take_of_length_le (by have := L.out; omega)] at o
      exact (o.set _ _ (by simp)).sub (fun b hb _ => by have hb' : w.heap.size + 2 < b := hb; show w.heap.size ≤ b; omega)

end Go.Proofs.YtppmkoigblimmaaGreatDoor

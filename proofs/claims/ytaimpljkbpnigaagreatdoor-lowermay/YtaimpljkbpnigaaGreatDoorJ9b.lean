/- 'append([]T{}, x...)' of a slice of structs without slices: another one, in memory of its own. Nothing of the program is named here. A region that draws its order, whose last operation (number k) turns a cell that an earlier one reads: what is held may hang on whether k has come up. Nothing of the program is named here. -/
import Derived.Test.YtaimpljkbpnigaaGreatDoorJ9a
import Derived.OwnWalk
import Derived.Deep.AppendLies
import Derived.Laws.AppendOwnNone
import Derived.Deep.RegionHeld3
import Derived.Test.YtaimpljkbpnigaaGreatDoorWrap
namespace Go.Proofs.YtaimpljkbpnigaaGreatDoor
open Go.RowKit
set_option linter.unusedVariables false

theorem wpList_copyF {α : Type} {P : Program} {L : Lay α} {cells : α → List Value} (F : Flat L cells) {ops : Array Oper} {rest : List Oper} {o : Oper} {a : Act} {Q : Exit → Act → World → Prop} (T TS bytes : Nat) (i0 : TypeInfo) (z : Value) (hu : P.underlying TS = some (.slice T)) (hinf : P.info? T = some i0) (hz0 : i0.zero = some z) (hz1 : i0.size = L.size) (hz2 : i0.bytes = bytes) (hzs : z.cells.size = L.size) (hsz : 0 < L.size) (hby : 0 < bytes)
    (w0 w : World) (hgd : o.guard = none) (s x : Operand) (ho : o.op = .call { callee := .builtin .append, args := #[s, x], argTypes := #[TS, TS] }) (hw : w = w0.alloc (.cells #[] T)) (H : Nat) (hH : w0.heap.size = H) (hs : a.eval s = .slice (some ⟨H, 0, none⟩) 0 0)
    (sa : Option Addr) (sn sc : Nat) (l : List α) (hx : a.eval x = .slice sa sn sc) (hi : Sl L bytes w0 sa sn sc l)
    (h : ∀ a' n' c' w', OSl L T bytes w' (fun b => H ≤ b) (.slice a' n' c') l → Below H w0 w' → wpList P ops Q rest (a.put o.dst (.slice a' n' c')) w') : wpList P ops Q (o :: rest) a w := by
  subst hw
  subst hH
  have hown0 : (w0.alloc (.cells #[] T)).ownsRow w0.heap.size T L.size (.slice (some ⟨w0.heap.size, 0, none⟩) 0 0) 0 [] := World.ownsRow_lit w0 #[] 0 (Nat.le_refl _) (by simp [maxLen]) (by simp)
  have hA : Below w0.heap.size w0 (w0.alloc (.cells #[] T)) := Below.alloc (Below.refl _ _) (Nat.le_refl _) _
  have hlr : l.length * bytes ≤ 140737488351232 := by rw [← hi.len]; exact hi.room
  cases sa with
  | none =>
    obtain ⟨rfl, rfl⟩ := hi.nilc rfl
    obtain rfl : l = [] := List.length_eq_zero_iff.1 hi.len.symm
    exact wpList_append_own_none hgd s x TS ho w0.heap.size T i0 L.size hu hinf _ 0 [] hs hown0 hx (h _ _ _ _ (F.osl hlr hown0 (fun g hg => (hown0.lt g hg).1)) hA)
  | some ad =>
    have hr := hi.room
    have hn : sn ≤ 140737488351232 := Nat.le_trans (Nat.le_mul_of_pos_right sn hby) hr
    refine wpList_append_own _ hgd s x TS ho w0.heap.size T i0 z L.size bytes hu hinf hz0 hz1 hz2 hzs hsz _ 0 [] hs hown0 ad sn sc (cellsOf cells l) hx (by rw [F.lenOf, hi.len]) ?_ (F.one l) (by unfold maxLen; omega) (by rw [Nat.zero_add]; omega) (by simp) ?_
    · intro j u hu'
      have hpos : 0 < sn := by
        rw [hi.len]
        cases l with
        | nil => simp [cellsOf] at hu'
        | cons p r => simp
      obtain ⟨b, off, e, hrow⟩ := (hi.kept hA).row hpos
      cases e
      have hc := F.cells hsz hrow j u hu'
      rwa [show (⟨b, off, none⟩ : Addr).add j = ⟨b, off + j, none⟩ by simp [Addr.add]]
    · intro v' w' ho' hg _
      simp only [Nat.zero_add, List.nil_append] at ho'
      rw [hi.len] at ho'
      have hb : Below w0.heap.size w0 w' := Below.grown hA hg (by simp) (by intro k hk; cases hk; exact Nat.le_refl _)
      have os := F.osl (B := fun b => w0.heap.size ≤ b) hlr ho' (fun g hg => (ho'.lt g hg).1)
      obtain ⟨a', n', c', rfl, _⟩ := os.reads
      exact h a' n' c' w' os hb

end Go.Proofs.YtaimpljkbpnigaaGreatDoor

namespace Go.Proofs.YtaimpljkbpnigaaGreatDoor
open Go.RowKit
set_option linter.unusedVariables false
section
variable {P : Program} {ops : Array Oper} {Q : Exit → Act → World → Prop} {md : Region.Mode} {S1 S2 : World → Prop} {k : Nat}

/-- What is held where so many have come up: S1 at all times, S2 till k. -/
def heldL (S1 S2 : World → Prop) (k : Nat) (done : Array Bool) (w : World) : Prop := S1 w ∧ (done.getD k true = false → S2 w)
/-- Whatever comes up next, to the end; what is held is shown behind each. -/
def wpL (P : Program) (md : Region.Mode) (ops : Array Oper) (Q : Exit → Act → World → Prop) (S1 S2 : World → Prop) (k : Nat) : Nat → Array Bool → Act → World → Prop
  | 0, done, a, w => Region.ready md ops done = [] ∧ Q .normal a w
  | n + 1, done, a, w => (Region.ready md ops done = [] → Q .normal a w) ∧ ∀ j ∈ Region.ready md ops done, wpOp P ops Q j (fun a' w' => heldL S1 S2 k (done.setIfInBounds j true) w' ∧ wpL P md ops Q S1 S2 k n (done.setIfInBounds j true) a' w') a w
theorem wpL_any : ∀ (n : Nat) (done : Array Bool) (a : Act) (w : World), wpL P md ops Q S1 S2 k n done a w → wpAny P md ops Q n done a w
  | 0, _, _, _, h => h
  | n + 1, _, _, _, h => ⟨h.1, fun j hj => wpOp_mono (fun a' w' h' => wpL_any n _ a' w' h'.2) (h.2 j hj)⟩
/-- k waits for i. -/
def waitsFor (md : Region.Mode) (ops : Array Oper) (k i : Nat) : Bool := match ops[k]? with
  | some o => o.after.any fun e => Region.binds md e && e.on == i
  | none => true
theorem not_ready {i : Nat} {done : Array Bool} (h : waitsFor md ops k i = true) (hi : done.getD i true = false) : k ∉ Region.ready md ops done := by
  intro hk
  obtain ⟨_, o, ho, hall⟩ := mem_ready.1 hk
  unfold waitsFor at h
  rw [ho] at h
  obtain ⟨e, he, hb⟩ := Array.any_eq_true'.1 h
  simp only [Bool.and_eq_true, beq_iff_eq] at hb
  have h1 := hall e he hb.1
  rw [hb.2] at h1
  rcases Nat.lt_or_ge i done.size with h' | h'
  · simp [h'] at hi h1; rw [hi] at h1; cases h1
  · simp [Array.getElem?_eq_none h'] at h1
theorem getD_self {done : Array Bool} {j : Nat} : ¬ (done.setIfInBounds j true).getD j true = false := by
  intro h
  rcases Nat.lt_or_ge j done.size with hl | hg
  · simp [hl] at h
  · have e : done[j]? = none := Array.getElem?_eq_none hg
    simp at h
theorem heldL_swap {i j : Nat} {done : Array Bool} {w : World} (hik : i ≠ k) (h : heldL S1 S2 k ((done.setIfInBounds i true).setIfInBounds j true) w) : heldL S1 S2 k (done.setIfInBounds j true) w := by
  refine ⟨h.1, fun hk => h.2 ?_⟩
  by_cases hj : j = k
  · subst hj; exact absurd hk getD_self
  · rw [getD_set_ne true hj] at hk ⊢
    rw [getD_set_ne true hik]
    exact hk
/-- What yields as long as k has not come up, and what k waits for, may be taken first. -/
theorem wpL_first {i : Nat} {oi : Oper} {v : Value} (hi : ops[i]? = some oi) (hsel : ∀ (j : Nat) (o : Oper) cs b, ops[j]? = some o → o.op ≠ .select cs b)
    (hQ : ∀ c a w, Q (.panic c) (a.put oi.dst v) w → Q (.panic c) a w) (hki : waitsFor md ops k i = true) (hik : i ≠ k) (n : Nat) : ∀ (done : Array Bool) (a : Act) (w : World),
      (∀ j oj, ops[j]? = some oj → j ≠ i → done.getD j true = false → (∀ e ∈ oj.after, Region.binds md e = true → e.on ≠ i) → oi.apart ops oj = true) →
      i ∈ Region.ready md ops done → done.getD k true = false → YieldsIf P ops (fun w => S1 w ∧ S2 w) oi v a → heldL S1 S2 k done w →
      wpL P md ops Q S1 S2 k n (done.setIfInBounds i true) (a.put oi.dst v) w → wpL P md ops Q S1 S2 k (n + 1) done a w := by
  induction n with
  | zero =>
    intro done a w _ hr hk hy hS H
    refine ⟨fun h => absurd hr (by rw [h]; simp), fun j hj => ?_⟩
    by_cases hji : j = i
    · rw [hji]; exact hy.wpOp hi ⟨hS.1, hS.2 hk⟩ ⟨⟨hS.1, fun _ => hS.2 hk⟩, H⟩
    · exact absurd (ready_mono hj hji) (by rw [H.1]; simp)
  | succ n ih =>
    intro done a w hfree hr hk hy hS H
    refine ⟨fun h => absurd hr (by rw [h]; simp), fun j hj => ?_⟩
    by_cases hji : j = i
    · rw [hji]; exact hy.wpOp hi ⟨hS.1, hS.2 hk⟩ ⟨⟨hS.1, fun _ => hS.2 hk⟩, H⟩
    have hiu := (mem_ready.1 hr).1
    obtain ⟨hju, oj, hoj, hall⟩ := mem_ready.1 hj
    have hjk : j ≠ k := fun e => not_ready hki hiu (e ▸ hj)
    have hwait : ∀ e ∈ oj.after, Region.binds md e = true → e.on ≠ i := fun e he hb hei => by
      have h1 := hall e he hb
      rw [hei] at h1
      rcases Nat.lt_or_ge i done.size with hl | hg
      · simp [hl] at hiu h1; rw [hiu] at h1; cases h1
      · simp [Array.getElem?_eq_none hg] at h1
    have step := wpOp_putIf hoj (hfree j oj hoj hji hju hwait) (fun cs b => hsel i oi cs b hi) (fun cs b => hsel j oj cs b hoj) hQ hy (H.2 j (ready_mono hj hji))
    refine wpOp_mono (fun a' w' h3 => ⟨heldL_swap hik h3.2.1, ih (done.setIfInBounds j true) a' w' (fun m om hm hmi hun hno => hfree m om hm hmi ?_ hno) (ready_mono hr (Ne.symm hji)) (by rw [getD_set_ne true hjk]; exact hk) h3.1 (heldL_swap hik h3.2.1) ?_⟩) step
    · by_cases hjm : j = m
      · rw [← hjm]; exact hju
      · rw [getD_set_ne true hjm] at hun; exact hun
    · rw [Array.setIfInBounds_comm _ _ hji]
      exact h3.2.2

/- the moves of a walk, as the library's own (wp_region_held_drew, wpAnyH_take, wpAnyH_ready, AllReadyH.cons, wpAnyH_done) -/
theorem wp_region_L {id : Nat} {a : Act} {w : World} (k : Nat) (S1 S2 : World → Prop) (hm : P.follows .mixedOrders = true) (hS : S1 w.drew ∧ S2 w.drew)
    (h : S1 w.drew ∧ S2 w.drew → wpL P .any ops Q S1 S2 k ops.size (Array.replicate ops.size false) a w.drew) : (Code.region id ops true).wp P Q a w :=
  wp_region_any hm (wpL_any _ _ _ _ (h hS))
theorem wpL_take {i : Nat} {oi : Oper} {v : Value} {n : Nat} {done : Array Bool} {a : Act} {w : World} (hi : ops[i]? = some oi) (hs : Region.noSelect ops = true) (hf : Region.free md ops done i = true) (hr : (Region.ready md ops done).contains i = true)
    (hki : (waitsFor md ops k i && i != k) = true) (hk : done.getD k true = false) (hQ : ∀ c a w, Q (.panic c) (a.put oi.dst v) w → Q (.panic c) a w) (hy : YieldsIf P ops (fun w => S1 w ∧ S2 w) oi v a) (hS : S1 w ∧ S2 w)
    (h : wpL P md ops Q S1 S2 k n (done.setIfInBounds i true) (a.put oi.dst v) w) : wpL P md ops Q S1 S2 k (n + 1) done a w := by
  simp only [Bool.and_eq_true, bne_iff_ne] at hki
  exact wpL_first hi (Region.noSelect_spec hs) hQ hki.1 hki.2 n done a w (Region.free_spec hi hf) (by simpa using hr) hk hy ⟨hS.1, fun _ => hS.2⟩ h
/-- Each of rs comes up next. -/
def eachL (P : Program) (md : Region.Mode) (ops : Array Oper) (Q : Exit → Act → World → Prop) (S1 S2 : World → Prop) (k n : Nat) (done : Array Bool) (a : Act) (w : World) (rs : List Nat) : Prop :=
  ∀ j ∈ rs, wpOp P ops Q j (fun a' w' => heldL S1 S2 k (done.setIfInBounds j true) w' ∧ wpL P md ops Q S1 S2 k n (done.setIfInBounds j true) a' w') a w
theorem eachL_nil {n : Nat} {done : Array Bool} {a : Act} {w : World} : eachL P md ops Q S1 S2 k n done a w [] := fun _ h => by cases h
theorem eachL_cons {n : Nat} {done : Array Bool} {a : Act} {w : World} {i : Nat} {o : Oper} {rs : List Nat} (ho : ops[i]? = some o) (hik : (i != k) = true)
    (h : ∀ K' : Act → World → Prop, Shut (∀ a w, S1 w ∧ S2 w → (S1 w ∧ S2 w → wpL P md ops Q S1 S2 k n (done.setIfInBounds i true) a w) → K' a w) → if Region.wanted o (yielded ops a.tmps) = true then Oper.wp P o a w K' Q else K' (a.put o.dst undef) w)
    (hs : eachL P md ops Q S1 S2 k n done a w rs) : eachL P md ops Q S1 S2 k n done a w (i :: rs) := fun j hj => by
  rcases List.mem_cons.1 hj with e | hj
  · rw [e]
    exact wpOp_step ho (fun K' hK => h K' (fun a w hS hW => hK a w ⟨⟨hS.1, fun _ => hS.2⟩, hW hS⟩))
  · exact hs j hj
/-- k itself, at the end: S2 is not asked any more. -/
theorem eachL_last {n : Nat} {done : Array Bool} {a : Act} {w : World} {o : Oper} (ho : ops[k]? = some o)
    (h : ∀ K' : Act → World → Prop, Shut (∀ a w, S1 w → wpL P md ops Q S1 S2 k n (done.setIfInBounds k true) a w → K' a w) → if Region.wanted o (yielded ops a.tmps) = true then Oper.wp P o a w K' Q else K' (a.put o.dst undef) w) : eachL P md ops Q S1 S2 k n done a w [k] := fun j hj => by
  have e : j = k := by simpa using hj
  rw [e]
  exact wpOp_step ho (fun K' hK => h K' (fun a w hS hW => hK a w ⟨⟨hS, fun hf => absurd hf getD_self⟩, hW⟩))
theorem wpL_ready {rs : List Nat} {n : Nat} {done : Array Bool} {a : Act} {w : World} (hr : Region.ready md ops done = rs) (hne : rs ≠ []) (h : eachL P md ops Q S1 S2 k n done a w rs) : wpL P md ops Q S1 S2 k (n + 1) done a w :=
  ⟨fun h0 => absurd (hr ▸ h0) hne, fun j hj => h j (hr ▸ hj)⟩
theorem wpL_done {done : Array Bool} {a : Act} {w : World} (hr : Region.ready md ops done = []) (h : Q .normal a w) : ∀ n, wpL P md ops Q S1 S2 k n done a w
  | 0 => ⟨hr, h⟩
  | _ + 1 => ⟨fun _ => h, by rw [hr]; simp⟩

end
end Go.Proofs.YtaimpljkbpnigaaGreatDoor

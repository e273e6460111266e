/- What came in as an argument, read as what it holds: one theory for every type of data (Lay). Nothing of the program is named here but at the end. -/
import Derived.Test.YtfnfbebkeoilfaaGreatDoorJ9a
import Derived.Test.YtfnfbebkeoilfaaGreatDoorJ1o
import Derived.Lib.SmallJoins
namespace Go.Proofs.YtfnfbebkeoilfaaGreatDoor
open Go.ChangeShapes Go.WideShapes Go.ChangeAt Go.RowKit Go.Deep
set_option linter.unusedVariables false
set_option maxRecDepth 100000
variable {α β : Type}

/-- Cells that are trod as the type T, of a size within the reach, read as the layout says. -/
def Opens (P : Program) (L : Lay α) (T : TypeId) : Prop := ∀ {H : Type} {enc : TypeId × Value → H} {w : World} {spare : Nat → Bool} {held : Bool} {fuel : Nat} {cs : List Value} {x : DataW H × List MemPlace},
  DataW.trod enc P w 0 spare held fuel T cs = some x → (∀ k ∈ x.1.weights P T, k ≤ reachBytes) → cs.length = L.size ∧ ∃ y : α, ∀ b o, (∀ j u, cs[j]? = some u → w.cell? ⟨b, o + j, none⟩ = some u) → L.reads w b o y
theorem opens_int {P : Program} {T : TypeId} (ht : P.underlying T = some (.int .i64)) : Opens P layI T := by
  intro H enc w spare held fuel cs x h hsz
  obtain ⟨n, rfl, _, _⟩ := DataW.trod_int ht h
  exact ⟨rfl, n, fun b o k => by have := k 0 _ rfl; simpa [layI] using this⟩
theorem opens_bool {P : Program} {T : TypeId} (ht : P.underlying T = some .bool) : Opens P layB T := by
  intro H enc w spare held fuel cs x h hsz
  obtain ⟨n, rfl, _⟩ := DataW.trod_bool ht h
  exact ⟨rfl, n, fun b o k => by have := k 0 _ rfl; simpa [layB] using this⟩
theorem choose_all {n : Nat} {p : Nat → α → Prop} (h : ∀ i, i < n → ∃ x, p i x) : ∃ l : List α, l.length = n ∧ ∀ i x, l[i]? = some x → p i x := by
  induction n with
  | zero => exact ⟨[], rfl, fun i x hx => by simp at hx⟩
  | succ n ih =>
    obtain ⟨l, hl, hp⟩ := ih (fun i hi => h i (by omega))
    obtain ⟨x, hx⟩ := h n (by omega)
    refine ⟨l ++ [x], by simp [hl], fun i y hy => ?_⟩
    rcases Nat.lt_or_ge i n with hlt | hge
    · rw [List.getElem?_append_left (by omega)] at hy
      exact hp i y hy
    · rw [List.getElem?_append_right (by omega)] at hy
      have hi : i = n := by
        have := (List.getElem?_eq_some_iff.1 hy).1
        simp at this
        omega
      subst hi
      rw [hl, Nat.sub_self] at hy
      cases hy
      exact hx
/-- A slice. -/
theorem opens_sl {P : Program} {L : Lay α} {T TS : TypeId} {bytes : Nat} (hu : P.underlying TS = some (.slice T)) (hb : P.bytesOf T = bytes) (hc : P.cellsOf T = L.size) (hs : 0 < L.size) (ho : Opens P L T)
    {H : Type} {enc : TypeId × Value → H} {w : World} {spare : Nat → Bool} {held : Bool} {fuel : Nat} {cs : List Value} {x : DataW H × List MemPlace}
    (h : DataW.trod enc P w 0 spare held fuel TS cs = some x) (hsz : ∀ k ∈ x.1.weights P TS, k ≤ reachBytes) : ∃ a n c l, cs = [.slice a n c] ∧ Sl L bytes w a n c l := by
  rcases open_slice hu h with ⟨rfl, rfl⟩ | ⟨a, len, cap, m, n, D, Pl, rfl, hb0, hl, hm, hmm, rfl, hx⟩
  · exact ⟨none, 0, 0, [], rfl, Sl.nil L bytes w⟩
  · have hlm : len ≤ m := by rw [hmm]; split <;> omega
    have each : ∀ i, i < len → ∃ cs' : List Value, cs'.length = L.size ∧ (∀ j, j < L.size → w.cell? ((a.add (i * L.size)).add j) = cs'[j]?) ∧ ∃ y : α, ∀ b o, (∀ j u, cs'[j]? = some u → w.cell? ⟨b, o + j, none⟩ = some u) → L.reads w b o y := by
      intro i hi
      obtain ⟨cs', h1, h2⟩ := hx i (by omega)
      rw [hc] at h1
      obtain ⟨_, hlen, hcell⟩ := World.cells?_some h1
      have hw : ∀ k ∈ (D i).weights P T, k ≤ reachBytes := by
        intro k hk
        refine hsz k ?_
        have hmem : D i ∈ (List.range len).map D := List.mem_map.2 ⟨i, List.mem_range.2 hi, rfl⟩
        simp only [DataW.weights, hu, List.mem_cons, List.mem_append]
        exact .inr (.inl (weights_all hmem k hk))
      exact ⟨cs', hlen, hcell, (ho h2 hw).2⟩
    have hsize : (len + (m - len)) * bytes ≤ reachBytes := by
      have := hsz ((len + (m - len)) * bytes) (by simp [DataW.weights, hu, hb])
      exact this
    have hroom : len * bytes ≤ 140737488351232 := by
      have : len * bytes ≤ (len + (m - len)) * bytes := Nat.mul_le_mul_right _ (by omega)
      unfold reachBytes at hsize
      omega
    rcases Nat.eq_zero_or_pos len with rfl | hpos
    · exact ⟨some a, 0, cap, [], rfl, rfl, hl, hroom, fun h => (by cases h), fun hn => absurd hn (by omega)⟩
    obtain ⟨b, o, rfl⟩ : ∃ b o, a = ⟨b, o, none⟩ := by
      obtain ⟨cs', hlen, hcell, _⟩ := each 0 hpos
      have h0 := hcell 0 hs
      rw [Nat.zero_mul] at h0
      obtain ⟨u, hu0⟩ : ∃ u, cs'[0]? = some u := ⟨cs'[0], List.getElem?_eq_getElem (by omega)⟩
      rw [hu0] at h0
      have h1 : w.cell? (a.add 0) = some u := by
        rw [show (a.add 0).add 0 = a.add 0 by unfold Addr.add; simp] at h0
        exact h0
      exact addr_plain (i := 0) h1
    obtain ⟨l, hll, hp⟩ := choose_all (α := α) (n := len) (p := fun i y => L.reads w b (o + i * L.size) y) (fun i hi => by
      obtain ⟨cs', hlen, hcell, y, hy⟩ := each i hi
      refine ⟨y, hy b _ (fun j u hj => ?_)⟩
      have hjl : j < L.size := by rw [← hlen]; exact (List.getElem?_eq_some_iff.1 hj).1
      have := hcell j hjl
      rw [add_at, add_at, hj] at this
      exact this)
    exact ⟨some ⟨b, o, none⟩, len, cap, l, rfl, hll.symm, hl, hroom, fun h => (by cases h), fun _ => ⟨b, o, rfl, hp⟩⟩
theorem opens_slice {P : Program} {L : Lay α} {T TS : TypeId} {bytes : Nat} (hu : P.underlying TS = some (.slice T)) (hb : P.bytesOf T = bytes) (hc : P.cellsOf T = L.size) (hs : 0 < L.size) (ho : Opens P L T) : Opens P (layS T bytes L) TS := by
  intro H enc w spare held fuel cs x h hsz
  obtain ⟨a, n, c, l, rfl, hl⟩ := opens_sl hu hb hc hs ho h hsz
  exact ⟨rfl, l, fun b o k => ⟨a, n, c, by have := k 0 _ rfl; simpa using this, hl⟩⟩
/-- Fields behind one another, from an offset on. -/
def OpensFs (P : Program) (L : Lay α) (off : Nat) (fs : List Field) : Prop := ∀ {H : Type} {enc : TypeId × Value → H} {w : World} {spare : Nat → Bool} {held : Bool} {n : Nat} {cs : List Value} {xs : List (DataW H × List MemPlace)}, xs.length = fs.length →
  (∀ (i : Nat) (f : Field) (x : DataW H × List MemPlace), fs[i]? = some f → xs[i]? = some x → DataW.trod enc P w 0 spare held n f.type ((cs.drop f.offset).take (P.cellsOf f.type)) = some x) → (∀ (i : Nat) (f : Field) (x : DataW H × List MemPlace), fs[i]? = some f → xs[i]? = some x → ∀ k ∈ x.1.weights P f.type, k ≤ reachBytes) →
  ∃ y : α, ∀ b o, (∀ j u, cs[off + j]? = some u → w.cell? ⟨b, o + j, none⟩ = some u) → L.reads w b o y
theorem opensFs_part {P : Program} {L : Lay α} {f : Field} (ho : Opens P L f.type) (hc : P.cellsOf f.type = L.size) {H : Type} {enc : TypeId × Value → H} {w : World} {spare : Nat → Bool} {held : Bool} {n : Nat} {cs : List Value} {x : DataW H × List MemPlace}
    (ht : DataW.trod enc P w 0 spare held n f.type ((cs.drop f.offset).take (P.cellsOf f.type)) = some x) (hw : ∀ k ∈ x.1.weights P f.type, k ≤ reachBytes) : ∃ y : α, ∀ b o, (∀ j u, cs[f.offset + j]? = some u → w.cell? ⟨b, o + j, none⟩ = some u) → L.reads w b o y := by
  obtain ⟨_, y, hy⟩ := ho ht hw
  refine ⟨y, fun b o k => hy b o (fun j u hj => k j u ?_)⟩
  rw [List.getElem?_take] at hj
  split at hj
  · rwa [List.getElem?_drop] at hj
  · cases hj
theorem opensFs_one {P : Program} {L : Lay α} {off : Nat} {f : Field} (hf : f.offset = off) (hc : P.cellsOf f.type = L.size) (ho : Opens P L f.type) : OpensFs P L off [f] := by
  intro H enc w spare held n cs xs hl ht hw
  match xs, hl with
  | [x], _ =>
    obtain ⟨y, hy⟩ := opensFs_part ho hc (ht 0 f x rfl rfl) (hw 0 f x rfl rfl)
    rw [hf] at hy
    exact ⟨y, hy⟩
theorem opensFs_cons {P : Program} {L : Lay α} {M : Lay β} {off : Nat} {f : Field} {fs : List Field} (hf : f.offset = off) (hc : P.cellsOf f.type = L.size) (ho : Opens P L f.type) (hr : OpensFs P M (off + L.size) fs) : OpensFs P (layP L M) off (f :: fs) := by
  intro H enc w spare held n cs xs hl ht hw
  match xs, hl with
  | x :: xs, hl =>
    obtain ⟨y, hy⟩ := opensFs_part ho hc (ht 0 f x rfl rfl) (hw 0 f x rfl rfl)
    rw [hf] at hy
    obtain ⟨z, hz⟩ := hr (xs := xs) (by simpa using hl) (fun i g x hg hx => ht (i + 1) g x (by simpa using hg) (by simpa using hx)) (fun i g x hg hx => hw (i + 1) g x (by simpa using hg) (by simpa using hx))
    refine ⟨(y, z), fun b o k => ⟨hy b o k, hz b (o + L.size) (fun j u hj => ?_)⟩⟩
    have := k (L.size + j) u (by rw [← hj, Nat.add_assoc])
    rwa [← Nat.add_assoc] at this
theorem opens_struct {P : Program} {L : Lay α} {T : TypeId} {fs : Array Field} (ht : P.underlying T = some (.struct fs)) (hc : P.cellsOf T = L.size) (ho : OpensFs P L 0 fs.toList) : Opens P L T := by
  intro H enc w spare held fuel cs x h hsz
  obtain ⟨xs, n, _, rfl, hl, hlen, hf⟩ := DataW.trod_struct ht h
  refine ⟨by rw [hl, hc], ?_⟩
  obtain ⟨y, hy⟩ := ho (cs := cs) (xs := xs) (by rw [hlen]; simp) (fun i f x hfi hx => by rw [hf i f (by simpa using hfi), hx]) (fun i f x hfi hx k hk => hsz k (by
    simp only [DataW.weights, ht]
    exact DataW.weights_mem_each (j := i) (t := f.type) (d := x.1) (by simp [Array.getElem?_toList] at hfi ⊢; exact ⟨f, hfi, rfl⟩) (by simp [hx]) k hk))
  exact ⟨y, fun b o k => hy b o (fun j u hj => k j u (by simpa using hj))⟩

theorem opens_i : Opens Tryz.prog layI 3 := opens_int Tryz.underlying3

theorem Tryz.cellsSlInt : Tryz.prog.cellsOf 40 = 1 := by kernel_rfl
theorem Tryz.bytesI : Tryz.prog.bytesOf 3 = 8 := by kernel_rfl
theorem Tryz.cellsI : Tryz.prog.cellsOf 3 = 1 := by kernel_rfl
theorem opens_ints : Opens Tryz.prog (layS 3 8 layI) 40 := opens_slice Tryz.underlying40 Tryz.bytesI Tryz.cellsI (by decide) opens_i

end Go.Proofs.YtfnfbebkeoilfaaGreatDoor

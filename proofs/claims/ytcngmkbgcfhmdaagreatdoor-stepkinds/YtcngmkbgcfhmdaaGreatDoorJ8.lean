/- A program that runs to its end, reckoned. Nothing of the program is named here. Package eval: run, Go and Eval. Two programs run to their ends, reckoned: one that adds, one that calls itself. Nothing of the program is named here. What the statements over eval lean on: results compared, their small programs, awake. -/
import Derived.Test.YtcngmkbgcfhmdaaGreatDoorJ7
import Derived.Deep.LoopGhost
import Derived.Test.YtcngmkbgcfhmdaaGreatDoorJ6a
import Derived.Test.YtcngmkbgcfhmdaaGreatDoorJ6b
namespace Go.Proofs.YtcngmkbgcfhmdaaGreatDoor
open Go.RowKit
set_option linter.unusedVariables false

/-- So many steps. -/
def goV (ps : List Fn) : Nat → St → St
  | 0, s => s
  | n + 1, s => goV ps n (stepV ps s)
def runV (ps : List Fn) (s : St) : St := goV ps (s.2.1.toNat + 1) s
/-- What is told of a state that is over. -/
abbrev Res := Int × Int × List Int × Int
def noRes : Res := (0, 0, [], 0)
def resV (s : St) : Res := (s.2.2.2.1, s.2.2.2.2, s.2.2.1, s.2.1)
def goR (ps : List Fn) (s : St) : Res := if stateB ps s = true then resV (runV ps s) else noRes
def goE (ps : List Fn) (s : St) : Int := if stateB ps s = true then 0 else 800
def evalR (ps : List Fn) (args : List Int) (fuel : Int) : Res := if startB ps args fuel = true then resV (runV ps (startV ps args fuel)) else noRes
def evalE (ps : List Fn) (args : List Int) (fuel : Int) : Int := if startB ps args fuel = true then 0 else 800

theorem goV_snoc {ps : List Fn} : ∀ (n : Nat) (s : St), goV ps (n + 1) s = stepV ps (goV ps n s)
  | 0, s => rfl
  | n + 1, s => by
    rw [show goV ps (n + 1 + 1) s = goV ps (n + 1) (stepV ps s) from rfl, goV_snoc n]
    rfl
theorem goV_add {ps : List Fn} : ∀ (n m : Nat) (s : St), goV ps (n + m) s = goV ps m (goV ps n s)
  | 0, m, s => by rw [Nat.zero_add]; rfl
  | n + 1, m, s => by
    rw [show n + 1 + m = n + m + 1 by omega]
    exact goV_add n m (stepV ps s)
theorem step_over {ps : List Fn} {s : St} (h : ¬ s.2.2.2.1 = 0) : stepV ps s = s := if_pos h
theorem goV_over {ps : List Fn} {s : St} (h : ¬ s.2.2.2.1 = 0) : ∀ n, goV ps n s = s
  | 0 => rfl
  | n + 1 => by rw [show goV ps (n + 1) s = goV ps n (stepV ps s) from rfl, step_over h]; exact goV_over h n
theorem goV_keeps {ps : List Fn} : ∀ (n : Nat) {s : St}, stateB ps s = true → stateB ps (goV ps n s) = true
  | 0, _, h => h
  | n + 1, _, h => goV_keeps n (step_keeps h)
theorem fuel_nonneg {ps : List Fn} {s : St} (h : stateB ps s = true) : 0 ≤ s.2.1 ∧ s.2.1 ≤ 100000 := by
  have := (state_parts h).2.1
  simp [fuelB] at this
  omega
/-- A step of one that runs costs one, or it is over. -/
theorem step_cost {ps : List Fn} {s : St} (h : stateB ps s = true) (hd : s.2.2.2.1 = 0) : (s.2.1 = 0 ∧ stepV ps s = ([], 0, s.2.2.1, 4, 0)) ∨ (¬ s.2.1 = 0 ∧ Stepped s (stepV ps s)) := by
  obtain ⟨fs, fu, out, dn, vl⟩ := s
  simp only [] at hd
  subst hd
  by_cases hf : fu = 0
  · subst hf
    exact .inl ⟨rfl, by simp [stepV]⟩
  · obtain ⟨f0, x, y, ll, sl, e, _, ok⟩ := ok_of h rfl
    simp only [] at e
    subst e
    refine .inr ⟨hf, ?_⟩
    rw [stepV_top hf]
    exact (step_run h hf ok).2
theorem goV_end {ps : List Fn} : ∀ (n : Nat) {s : St}, stateB ps s = true → s.2.1.toNat < n → ¬ (goV ps n s).2.2.2.1 = 0
  | 0, _, _, h => by omega
  | n + 1, s, h, hn => by
    by_cases hd : s.2.2.2.1 = 0
    · rcases step_cost h hd with ⟨_, e⟩ | ⟨h0, st⟩
      · rw [show goV ps (n + 1) s = goV ps n (stepV ps s) from rfl, e, goV_over (by simp)]
        simp
      · refine goV_end n (step_keeps h) ?_
        rw [st.fuel]
        have := (fuel_nonneg h).1
        omega
    · rw [goV_over hd]; exact hd
theorem run_over {ps : List Fn} {s : St} (h : stateB ps s = true) : ¬ (runV ps s).2.2.2.1 = 0 := goV_end _ h (Nat.lt_succ_self _)
/-- Wherever it is over, it is what it comes to. -/
theorem run_at {ps : List Fn} {s : St} (h : stateB ps s = true) {n : Nat} (hn : ¬ (goV ps n s).2.2.2.1 = 0) : runV ps s = goV ps n s := by
  have h1 := run_over h
  unfold runV at h1 ⊢
  rcases Nat.le_total n (s.2.1.toNat + 1) with hle | hle
  · obtain ⟨k, hk⟩ := Nat.exists_eq_add_of_le hle
    rw [hk, goV_add, goV_over hn]
  · obtain ⟨k, hk⟩ := Nat.exists_eq_add_of_le hle
    rw [hk, goV_add (s.2.1.toNat + 1) k s, goV_over h1]
theorem run_step {ps : List Fn} {s : St} (h : stateB ps s = true) : runV ps (stepV ps s) = runV ps s := by
  have h1 := run_over (step_keeps h)
  exact (run_at h (n := (stepV ps s).2.1.toNat + 1 + 1) h1).symm
theorem run_go {ps : List Fn} : ∀ (n : Nat) {s : St}, stateB ps s = true → runV ps (goV ps n s) = runV ps s
  | 0, _, _ => rfl
  | n + 1, s, h => (run_go n (step_keeps h)).trans (run_step h)
theorem run_keeps {ps : List Fn} {s : St} (h : stateB ps s = true) : stateB ps (runV ps s) = true := goV_keeps _ h
theorem run_out_le {ps : List Fn} {s : St} (h : stateB ps s = true) : (runV ps s).2.2.1.length ≤ 100000 := by
  have := (state_parts (run_keeps h)).2.1
  simp [fuelB] at this
  omega
theorem start_parts {ps : List Fn} {args : List Int} {fuel : Int} (h : startB ps args fuel = true) : (0 ≤ fuel ∧ fuel ≤ 100000) ∧ verV ps = 0 ∧ (args.length : Int) = (ps.getD 0 noFn).1 ∧ numsB args = true := by
  unfold startB lenB at h
  simp only [Bool.and_eq_true, decide_eq_true_eq] at h
  exact h
theorem start_yes {ps : List Fn} {args : List Int} {fuel : Int} (h : startB ps args fuel = true) : startV ps args fuel = ([(0, 0, freshL (ps.getD 0 noFn).2.1.toNat args, [])], fuel, [], 0, 0) ∧ startE ps args fuel = 0 := by unfold startV startE; rw [h]; exact ⟨rfl, rfl⟩
/-- Where a program begins may be. -/
theorem start_state {ps : List Fn} {args : List Int} {fuel : Int} (h : startB ps args fuel = true) : stateB ps (startV ps args fuel) = true := by
  obtain ⟨hf, hv, hl, hn⟩ := start_parts h
  have h1 := (ver_some hv).1
  have hfn := ver_fn hv (i := 0) (by omega) (x := (ps.getD 0 noFn).1) (y := (ps.getD 0 noFn).2.1) (l := (ps.getD 0 noFn).2.2) rfl
  have hz : heightV ps ((0 : Nat) : Int) ((0 : Nat) : Int) = 0 := by
    have he := ver_at hv (i := 0) (by omega)
    obtain ⟨_, f', ef, _, hw, _, _, _⟩ := hts_ok he
    have : f' = 0 := by omega
    subst this
    have := height_at (pc := 0) he (by rw [hw.len]; omega)
    exact this.trans hw.first
  have hz' : heightV ps 0 0 = 0 := hz
  rw [(start_yes h).1]
  refine state_of hv (by simp [fuelB]; omega) rfl rfl ?_
  refine calls_snoc (fs := []).2 ⟨frB_of (by rw [hz']; omega) ?_ (by rw [hz']; rfl) (fresh_nums hn) rfl, fun i hi => by simp at hi⟩
  rw [show ∀ (k : Nat) (l : List Int), (freshL k l).length = k from fun k l => by simp [freshL]]
  show (((ps.getD 0 noFn).2.1.toNat : Nat) : Int) = (ps.getD (0 : Int).toNat noFn).2.1
  rw [show (0 : Int).toNat = 0 from rfl]
  omega
theorem goR_yes {ps : List Fn} {s : St} (h : stateB ps s = true) : goR ps s = resV (runV ps s) ∧ goE ps s = 0 := by unfold goR goE; rw [h]; exact ⟨rfl, rfl⟩
theorem goR_no {ps : List Fn} {s : St} (h : stateB ps s = false) : goR ps s = noRes ∧ goE ps s = 800 := by unfold goR goE; rw [h]; exact ⟨rfl, rfl⟩
theorem evalR_yes {ps : List Fn} {args : List Int} {fuel : Int} (h : startB ps args fuel = true) : evalR ps args fuel = goR ps (startV ps args fuel) ∧ evalE ps args fuel = goE ps (startV ps args fuel) := by
  unfold evalR evalE; rw [h, (goR_yes (start_state h)).1, (goR_yes (start_state h)).2]; exact ⟨rfl, rfl⟩
theorem evalR_no {ps : List Fn} {args : List Int} {fuel : Int} (h : startB ps args fuel = false) : evalR ps args fuel = noRes ∧ evalE ps args fuel = 800 := by unfold evalR evalE; rw [h]; exact ⟨rfl, rfl⟩

/- With more fuel. -/
/-- The same, but for so much more fuel. -/
def moreV (m : Int) (s : St) : St := (s.1, s.2.1 + m, s.2.2.1, s.2.2.2.1, s.2.2.2.2)

theorem getLastD_mem {l : List Fr} {d : Fr} (h : ¬ l = []) : ∃ fs, l = fs ++ [l.getLastD d] := by
  rcases List.eq_nil_or_concat l with h0 | ⟨a, b, h0⟩
  · exact absurd h0 h
  · exact ⟨a, by rw [h0]; simp⟩
/-- What is printed stays. -/
theorem ite_ind {α : Type} {c : Prop} [Decidable c] {a b : α} (P : α → Prop) (h1 : c → P a) (h2 : ¬ c → P b) : P (if c then a else b) := by
  by_cases h : c
  · rw [if_pos h]; exact h1 h
  · rw [if_neg h]; exact h2 h
theorem instr_out (ps : List Fn) (fs : List Fr) (x y : Int) (ll sl : List Int) (fu : Int) (out : List Int) (k a : Int) : out <+: (instrV ps fs x y ll sl fu out k a).2.2.1 := by
  unfold instrV retV
  refine ite_ind (fun s : St => out <+: s.2.2.1) (fun _ => List.prefix_rfl) (fun _ => ?_)
  refine ite_ind (fun s : St => out <+: s.2.2.1) (fun _ => List.prefix_rfl) (fun _ => ?_)
  refine ite_ind (fun s : St => out <+: s.2.2.1) (fun _ => List.prefix_rfl) (fun _ => ?_)
  refine ite_ind (fun s : St => out <+: s.2.2.1) (fun _ => ite_ind (fun s : St => out <+: s.2.2.1) (fun _ => List.prefix_rfl) (fun _ => List.prefix_rfl)) (fun _ => ?_)
  refine ite_ind (fun s : St => out <+: s.2.2.1) (fun _ => List.prefix_rfl) (fun _ => ?_)
  refine ite_ind (fun s : St => out <+: s.2.2.1) (fun _ => List.prefix_rfl) (fun _ => ?_)
  refine ite_ind (fun s : St => out <+: s.2.2.1) (fun _ => List.prefix_rfl) (fun _ => ?_)
  refine ite_ind (fun s : St => out <+: s.2.2.1) (fun _ => List.prefix_rfl) (fun _ => ?_)
  refine ite_ind (fun s : St => out <+: s.2.2.1) (fun _ => ite_ind (fun s : St => out <+: s.2.2.1) (fun _ => List.prefix_rfl) (fun _ => List.prefix_rfl)) (fun _ => ?_)
  refine ite_ind (fun s : St => out <+: s.2.2.1) (fun _ => List.prefix_append _ _) (fun _ => ?_)
  exact ite_ind (fun s : St => out <+: s.2.2.1) (fun _ => List.prefix_rfl) (fun _ => List.prefix_rfl)
theorem step_out (ps : List Fn) (s : St) : ∃ t, (stepV ps s).2.2.1 = s.2.2.1 ++ t := by
  have : s.2.2.1 <+: (stepV ps s).2.2.1 := by
    unfold stepV
    split
    · exact List.prefix_rfl
    · split
      · exact List.prefix_rfl
      · exact instr_out _ _ _ _ _ _ _ _ _ _
  obtain ⟨t, h⟩ := this
  exact ⟨t, h.symm⟩
theorem goV_out (ps : List Fn) : ∀ (n : Nat) (s : St), ∃ t, (goV ps n s).2.2.1 = s.2.2.1 ++ t
  | 0, s => ⟨[], by simp [goV]⟩
  | n + 1, s => by
    obtain ⟨t, h⟩ := step_out ps s
    obtain ⟨t', h'⟩ := goV_out ps n (stepV ps s)
    exact ⟨t ++ t', by rw [show goV ps (n + 1) s = goV ps n (stepV ps s) from rfl, h', h, List.append_assoc]⟩
theorem instr_more (ps : List Fn) (fs : List Fr) (x y : Int) (ll sl : List Int) (fu m : Int) (out : List Int) (k a : Int) : instrV ps fs x y ll sl (fu + m) out k a = moreV m (instrV ps fs x y ll sl fu out k a) := by
  unfold instrV retV
  simp only [apply_ite (moreV m)]
  rfl
theorem step_more {ps : List Fn} {s : St} {m : Int} (hd : s.2.2.2.1 = 0) (h0 : 0 ≤ s.2.1) (hf : ¬ s.2.1 = 0) (hm : 0 ≤ m) : stepV ps (moreV m s) = moreV m (stepV ps s) := by
  obtain ⟨fs, fu, out, dn, vl⟩ := s
  simp only [] at hd h0 hf
  subst hd
  have h1 : ¬ fu + m = 0 := by omega
  unfold stepV
  rw [show moreV m (fs, fu, out, 0, vl) = (fs, fu + m, out, 0, vl) from rfl]
  simp only [not_true_eq_false, if_false, hf, h1]
  rw [show fu + m - 1 = fu - 1 + m by omega]
  exact instr_more _ _ _ _ _ _ _ _ _ _ _
theorem goV_more {ps : List Fn} {m : Int} (hm : 0 ≤ m) : ∀ (n : Nat) {s : St}, stateB ps s = true → ¬ s.2.2.2.1 = 4 →
    (¬ (goV ps n s).2.2.2.1 = 4 ∧ goV ps n (moreV m s) = moreV m (goV ps n s)) ∨ ((goV ps n s).2.2.2.1 = 4 ∧ (goV ps n s).2.1 = 0 ∧ ∃ j u, goV ps j (moreV m s) = u ∧ u.2.2.1 = (goV ps n s).2.2.1)
  | 0, s, _, h4 => .inl ⟨h4, rfl⟩
  | n + 1, s, h, h4 => by
    by_cases hd : s.2.2.2.1 = 0
    · rcases step_cost h hd with ⟨h0, e⟩ | ⟨h0, st⟩
      · right
        rw [show goV ps (n + 1) s = goV ps n (stepV ps s) from rfl, e, goV_over (by simp)]
        exact ⟨rfl, rfl, 0, _, rfl, rfl⟩
      · have e := step_more (ps := ps) (m := m) hd (fuel_nonneg h).1 h0 hm
        rcases goV_more hm n (step_keeps h) st.done with ⟨k1, k2⟩ | ⟨k1, k2, j, u, k3, k4⟩
        · left
          refine ⟨k1, ?_⟩
          rw [show goV ps (n + 1) (moreV m s) = goV ps n (stepV ps (moreV m s)) from rfl, e]
          exact k2
        · right
          refine ⟨k1, k2, j + 1, u, ?_, k4⟩
          rw [show goV ps (j + 1) (moreV m s) = goV ps j (stepV ps (moreV m s)) from rfl, e]
          exact k3
    · left
      have hd' : ¬ (moreV m s).2.2.2.1 = 0 := hd
      rw [goV_over hd, goV_over hd']
      exact ⟨h4, rfl⟩
/-- With more fuel: what did not run out is the same, what did has a beginning of the trace. -/
theorem eval_more {ps : List Fn} {args : List Int} {k m : Int} (hm : 0 ≤ m) (h : startB ps args k = true) (h' : startB ps args (k + m) = true) :
    ((evalR ps args k).1 = 4 ∧ (evalR ps args k).2.2.2 = 0 ∧ ∃ t, (evalR ps args (k + m)).2.2.1 = (evalR ps args k).2.2.1 ++ t) ∨
    (¬ (evalR ps args k).1 = 4 ∧ evalR ps args (k + m) = ((evalR ps args k).1, (evalR ps args k).2.1, (evalR ps args k).2.2.1, (evalR ps args k).2.2.2 + m)) := by
  have hs := start_state h
  have hs' := start_state h'
  have e : startV ps args (k + m) = moreV m (startV ps args k) := by rw [(start_yes h).1, (start_yes h').1]; rfl
  have e1 : evalR ps args k = resV (runV ps (startV ps args k)) := if_pos h
  have e2 : evalR ps args (k + m) = resV (runV ps (startV ps args (k + m))) := if_pos h'
  have h4 : ¬ (startV ps args k).2.2.2.1 = 4 := by rw [(start_yes h).1]; simp
  have hov := run_over hs
  rw [e1, e2]
  rw [e] at hs' ⊢
  generalize startV ps args k = s at *
  rcases goV_more hm (s.2.1.toNat + 1) hs h4 with ⟨k1, k2⟩ | ⟨k1, k2, j, u, k3, k4⟩
  · right
    refine ⟨k1, ?_⟩
    have : runV ps (moreV m s) = moreV m (runV ps s) := by
      rw [run_at hs' (n := s.2.1.toNat + 1) (by rw [k2]; exact hov), k2]
      rfl
    rw [this]
    rfl
  · left
    refine ⟨k1, k2, ?_⟩
    rw [← run_go j hs', k3]
    obtain ⟨t, ht⟩ := goV_out ps (u.2.1.toNat + 1) u
    exact ⟨t, by show (goV ps (u.2.1.toNat + 1) u).2.2.1 = _; rw [ht, k4]; rfl⟩

end Go.Proofs.YtcngmkbgcfhmdaaGreatDoor

namespace Go.Proofs.YtcngmkbgcfhmdaaGreatDoor
open Go.RowKit
set_option linter.unusedVariables false

theorem Mach.kept {w0 wk w w' : World} {base mb : Nat} {pa : Option Addr} {pn pc : Nat} {s : St} (h : Mach w0 wk w base mb pa pn pc s) (hb : Below w.heap.size w w') : Mach w0 wk w' base mb pa pn pc s := by
  obtain ⟨⟨fa, fn, fc, t, oa, on, oc, X, M⟩, old, k1, k2, k3, kp⟩ := h
  exact ⟨⟨fa, fn, fc, t, oa, on, oc, X.kept hb, M.kept hb⟩, kt old hb, k1, k2, Nat.le_trans k3 hb.size, kp.kept hb⟩
theorem Mach.re {w0 wk w : World} {base mb : Nat} {pa : Option Addr} {pn pc : Nat} {s : St} (h : Mach w0 wk w base mb pa pn pc s) : Mach w0 w w base mb pa pn pc s :=
  ⟨h.ex, h.old, h.hb, h.hm, h.hsz, Kp.refl _ _⟩
theorem Mach.out {w0 wk w : World} {base mb : Nat} {pa : Option Addr} {pn pc : Nat} {s : St} (h : Mach w0 wk w base mb pa pn pc s) : mb < w.heap.size := by
  obtain ⟨⟨fa, fn, fc, t, oa, on, oc, X, M⟩, _⟩ := h
  exact lt_of_cell X.c0
/-- A result of nothing in a block of its own. -/
structure Zr4 (w : World) (b : Nat) : Prop where
  c0 : w.cell? ⟨b, 0, none⟩ = some (.int .i64 0)
  c1 : w.cell? ⟨b, 1, none⟩ = some (.int .i64 0)
  c2 : w.cell? ⟨b, 2, none⟩ = some (.slice none 0 0)
  c3 : w.cell? ⟨b, 3, none⟩ = some (.int .i64 0)
  f0 : w.frozen? ⟨b, 0, none⟩ = false
  f1 : w.frozen? ⟨b, 1, none⟩ = false
  f2 : w.frozen? ⟨b, 2, none⟩ = false
  f3 : w.frozen? ⟨b, 3, none⟩ = false
theorem Zr4.of {w w' : World} {b : Nat} (h : Zr4 w b) (e : w'.heap[b]? = w.heap[b]?) : Zr4 w' b := by
  have g : ∀ o, w'.cell? ⟨b, o, none⟩ = w.cell? ⟨b, o, none⟩ := fun o => World.cell?_of_block e
  have f : ∀ o, w'.frozen? ⟨b, o, none⟩ = w.frozen? ⟨b, o, none⟩ := fun o => World.frozen?_of_block e
  exact ⟨(g _).trans h.c0, (g _).trans h.c1, (g _).trans h.c2, (g _).trans h.c3, (f _).trans h.f0, (f _).trans h.f1, (f _).trans h.f2, (f _).trans h.f3⟩
theorem Zr4.kept {w w' : World} {b : Nat} (h : Zr4 w b) (hb : Below w.heap.size w w') : Zr4 w' b := h.of (hb.block b (lt_of_cell h.c0))
theorem below4 {B : Nat} {w u : World} {b : Nat} (h : Below B w u) (hb : B ≤ b) (v0 v1 v2 v3 : Value) : Below B w ((((u.setCell ⟨b, 0, none⟩ v0).setCell ⟨b, 1, none⟩ v1).setCell ⟨b, 2, none⟩ v2).setCell ⟨b, 3, none⟩ v3) :=
  (((h.setCell (p := ⟨b, 0, none⟩) hb v0).setCell (p := ⟨b, 1, none⟩) hb v1).setCell (p := ⟨b, 2, none⟩) hb v2).setCell (p := ⟨b, 3, none⟩) hb v3
/-- What is so while it runs. -/
structure RunInv (w0 wk : World) (base mb : Nat) (pa : Option Addr) (pn pc : Nat) (ps : List Fn) (s : St) (k : Nat) (wr : World) : Prop where
  ex : ∃ q : Nat, q ≤ s.2.1.toNat + 1 ∧ k = s.2.1.toNat + 1 - q ∧ Mach w0 wk wr base mb pa pn pc (goV ps q s)

set_option maxRecDepth 100000 in
set_option maxHeartbeats 8000000 in
theorem run_any {w0 wk : World} {base mb : Nat} {pa : Option Addr} {pn pc : Nat} (ps : List Fn) (s : St) (w : World) (h : Mach w0 wk w base mb pa pn pc s) (hs : stateB ps s = true) (hp : Fns w0 pa pn pc ps) :
    Calls Tryz.prog 38 #[.pointer (some ⟨mb, 0, none⟩)] w fun e w' => ∃ oa on oc, e = .returned (.agg #[.int .i64 (runV ps s).2.2.2.1, .int .i64 (runV ps s).2.2.2.2, .slice oa on oc, .int .i64 (runV ps s).2.1]) ∧ Row1 w' base (.slice oa on oc) (runV ps s).2.2.1 ∧ Below w0.heap.size w0 w' := by
  have hR : ∃ R, runV ps s = R := ⟨_, rfl⟩
  obtain ⟨⟨Rf, Rfu, Ro, Rd, Rv⟩, hR⟩ := hR
  rw [hR]
  simp only []
  have HR := hid hR
  clear hR
  have hmw := h.out
  have hAl : Below w.heap.size w (w.alloc (.cells #[.int .i64 0, .int .i64 0, .slice none 0 0, .int .i64 0] 55)) := Below.alloc (Below.refl _ _) (Nat.le_refl _) _
  have W1 : Hid (∃ w1 : World, w1 = w.alloc (.cells #[.int .i64 0, .int .i64 0, .slice none 0 0, .int .i64 0] 55)) := hid ⟨_, rfl⟩
  obtain ⟨w1, hw1⟩ := W1.out
  have M1 : Hid (Mach w0 w1 w1 base mb pa pn pc s) := hid (by rw [hw1]; exact (h.kept hAl).re)
  have G1 : Hid (w1.heap[w.heap.size]? = some (.cells #[.int .i64 0, .int .i64 0, .slice none 0 0, .int .i64 0] 55 (0, 0))) := hid (by rw [hw1]; exact heap_alloc_new _ _)
  have R1 : Hid (Zr4 w1 w.heap.size) := hid (by rw [hw1]; exact ⟨by simp [go_sem], by simp [go_sem], by simp [go_sem], by simp [go_sem], by simp [go_sem], by simp [go_sem], by simp [go_sem], by simp [go_sem]⟩)
  have E1 := hid hw1
  have HS := hid hs
  have HP := hid hp
  have HO : Hid (w0.heap.size ≤ w.heap.size ∧ base ≤ w.heap.size) := hid ⟨h.old.size, h.hsz⟩
  clear hw1 W1 hAl h hs hp
  go_enter Tryz.func38, Tryz.ntmps38
  go_wp2_with fail
  refine wp_world (U := w1) (by rw [E1.out]) ?_
  go_loopg [] (s.2.1.toNat + 1) (fun k wr => RunInv w0 w1 base mb pa pn pc ps s k wr)
  case atStart => exact ⟨0, Nat.zero_le _, rfl, M1.out⟩
  case round =>
    obtain ⟨q, hq, hk, m⟩ := hrel.ex
    clear hrel
    have Z : Hid (Zr4 wr w.heap.size) := hid (R1.out.of ((m.kp w.heap.size _ _ (by omega) G1.out).trans G1.out.symm))
    obtain ⟨fa, fn, fc, t, oa, on, oc, X0, M0⟩ := m.ex
    have X := hid X0
    have MO := hid M0.rows.1
    have MM := hid m
    clear X0 M0 m
    by_cases hd : (goV ps q s).2.2.2.1 = 0
    · have hlt : q < s.2.1.toNat + 1 := by
        rcases Nat.lt_or_ge q (s.2.1.toNat + 1) with h1 | h1
        · exact h1
        · exfalso
          obtain rfl : q = s.2.1.toNat + 1 := by omega
          exact run_over HS.out hd
      go_wp2_with fail
      refine (runs_any true _ X.out (by rw [hd]; rfl)).mono ?_
      rintro e x ⟨rfl, hx⟩
      rw [hx]
      clear hx
      go_wp2_with fail
      refine (stepM_any ps _ _ MM.out (goV_keeps q HS.out) HP.out).mono ?_
      rw [← goV_snoc]
      rintro e w2 ⟨rfl, m2⟩
      have M2 := hid m2
      clear m2
      go_wp2_with fail
      go_roundg (s.2.1.toNat + 1 - (q + 1))
      case rel => exact ⟨q + 1, by omega, rfl, M2.out⟩
      case measure => omega
    · have e : goV ps q s = (Rf, Rfu, Ro, Rd, Rv) := (run_at HS.out hd).symm.trans HR.out
      have X9 : Hid (MX wr mb pa pn pc (.slice fa fn fc) Rfu (.slice oa on oc) Rd Rv) := hid (by have := X.out; rw [e] at this; exact this)
      have MO9 : Hid (Row1 wr base (.slice oa on oc) Ro) := hid (by have := MO.out; rw [e] at this; exact this)
      have hd' : (Rd == 0) = false := by rw [e] at hd; simpa using hd
      clear X MO e hd
      go_wp2_with fail
      refine (runs_any false _ X9.out hd').mono ?_
      rintro e x ⟨rfl, hx⟩
      rw [hx]
      clear hx
      go_wp2_with fail
      refine (mstate_any _ X9.out).mono ?_
      rintro e w3 ⟨rfl, b3⟩
      have hA3 : Below w3.heap.size w3 (w3.alloc (.cells #[.slice fa fn fc, .int .i64 Rfu, .slice oa on oc, .int .i64 Rd, .int .i64 Rv] 28)) := Below.alloc (Below.refl _ _) (Nat.le_refl _) _
      have b4 := kt b3 hA3
      obtain ⟨c0, c1, c2, c3, f0, f1, f2, f3⟩ := Z.out.kept b4
      have hlt := lt_of_cell Z.out.c0
      have hs3 := b3.size
      have OO := hid (MO9.out.frm (Frm.of_below (S := fun _ => False) b4) (fun _ _ k => k))
      have OL := hid (kt MM.out.old b4)
      clear b3 hA3 b4
      go_wp2_with fail
      refine bodyPost_ret (v := .agg #[.int .i64 Rd, .int .i64 Rv, .slice oa on oc, .int .i64 Rfu]) (by simp [results, Tryz.results38, go_sem, c0, c1, c2, c3]) rfl ⟨_, _, _, rfl, ?_, ?_⟩
      · have o := OO.out
        have key : ∀ (u : World) (o : Nat) (z : Value), Row1 u base (.slice oa on oc) Ro → (∀ b, (Value.slice oa on oc).ownBlock = some b → b ≠ w.heap.size) → Row1 (u.setCell ⟨w.heap.size, o, none⟩ z) base (.slice oa on oc) Ro :=
          fun u o z h hn => h.frm (S := fun b => b = w.heap.size) (Frm.set _ rfl) (fun b hb e => hn b hb e)
        have hn : ∀ b, (Value.slice oa on oc).ownBlock = some b → b ≠ w.heap.size := by
          intro b hb e
          rcases MO9.out.2.2 with ⟨e0, _⟩ | ⟨g, cap, cur, e0, _, hg, _⟩
          · rw [e0] at hb; cases hb
          · rw [e0] at hb
            cases hb
            have e' : g = w.heap.size := e
            rw [e', MM.out.kp w.heap.size _ _ (by omega) G1.out] at hg
            cases hg
        exact key _ _ _ (key _ _ _ (key _ _ _ (key _ _ _ o hn) hn) hn) hn
      · exact below4 OL.out (by have := HO.out.1; omega) _ _ _ _

set_option maxRecDepth 100000 in
set_option maxHeartbeats 8000000 in
theorem evalGo_any (pa : Option Addr) (pn pc : Nat) (ps : List Fn) (fa : Option Addr) (fn fc : Nat) (fs : List Fr) (fu : Int) (oa : Option Addr) (on oc : Nat) (os : List Int) (dn vl : Int) (w : World) (hp : Fns w pa pn pc ps) (hf : Frs w fa fn fc fs) (ho : Ints w oa on oc os) (ld : Ld w) :
    Calls Tryz.prog 19 #[.agg #[.slice pa pn pc], .agg #[.slice fa fn fc, .int .i64 fu, .slice oa on oc, .int .i64 dn, .int .i64 vl]] w fun e w' => ∃ ra rn rc, e = .returned (.tuple #[.agg #[.int .i64 (goR ps (fs, fu, os, dn, vl)).1, .int .i64 (goR ps (fs, fu, os, dn, vl)).2.1, .slice ra rn rc, .int .i64 (goR ps (fs, fu, os, dn, vl)).2.2.2], .int .i64 (goE ps (fs, fu, os, dn, vl))]) ∧
      Row1 w' w.heap.size (.slice ra rn rc) (goR ps (fs, fu, os, dn, vl)).2.2.1 ∧ Below w.heap.size w w' := by
  have HP := hid hp
  have HF := hid hf
  have HO := hid ho
  have LD := hid ld
  have hfr := hf.room
  have hfc := hf.cap
  have hor := ho.room
  have hoc := ho.cap
  have hpr := hp.room
  have hpc := hp.cap
  clear hp hf ho ld
  obtain ⟨⟨Rd, Rv, Ro, Rfu⟩, hR⟩ : ∃ R, goR ps (fs, fu, os, dn, vl) = R := ⟨_, rfl⟩
  obtain ⟨EE, hE⟩ : ∃ E, goE ps (fs, fu, os, dn, vl) = E := ⟨_, rfl⟩
  rw [hR, hE]
  simp only []
  have HR := hid hR
  have HE := hid hE
  clear hR hE
  have W3 : Hid (∃ w3 : World, w3 = ((w.alloc (.cells #[.slice pa pn pc] 24)).alloc (.cells #[.slice fa fn fc, .int .i64 fu, .slice oa on oc, .int .i64 dn, .int .i64 vl] 28)).alloc (.cells #[.int .i64 0, .int .i64 0, .slice none 0 0, .int .i64 0] 55)) := hid ⟨_, rfl⟩
  obtain ⟨w3, hw3⟩ := W3.out
  have hs3 : w3.heap.size = w.heap.size + 3 := by rw [hw3]; simp
  have B3 : Hid (Below w.heap.size w w3) := hid (by rw [hw3]; exact Below.alloc (Below.alloc (Below.alloc (Below.refl _ _) (Nat.le_refl _) _) (by simp) _) (by simp; omega) _)
  have Z3 : Hid (Zr4 w3 (w.heap.size + 1 + 1)) := hid (by rw [hw3]; exact ⟨by simp [go_sem], by simp [go_sem], by simp [go_sem], by simp [go_sem], by simp [go_sem], by simp [go_sem], by simp [go_sem], by simp [go_sem]⟩)
  have S3 : Hid (SX w3 (w.heap.size + 1) (.slice fa fn fc) fu (.slice oa on oc) dn vl) := hid (by rw [hw3]; exact ⟨by simp [go_sem], by simp [go_sem], by simp [go_sem], by simp [go_sem], by simp [go_sem], by simp [go_sem], by simp [go_sem]⟩)
  have P3 : Hid (w3.cell? ⟨w.heap.size, 0, none⟩ = some (.slice pa pn pc)) := hid (by rw [hw3]; simp [go_sem])
  have E3 := hid hw3
  clear hw3 W3
  go_enter Tryz.func19, Tryz.ntmps19
  go_wp2_with fail
  refine calls_inW (U := w3) (by rw [E3.out]) ?_
  refine (frameState_any _ _ _ ps _ _ _ fs fu _ _ _ os dn vl _ (HP.out.kept B3.out) (HF.out.kept B3.out) (HO.out.kept B3.out) (LD.out.up B3.out)).mono ?_
  rintro e w1 ⟨rfl, b1⟩
  have B1 := hid (kt B3.out b1)
  have Z1 := hid (Z3.out.kept b1)
  have S1 := hid (S3.out.kept b1)
  have P1 := hid (kept_cell b1 P3.out)
  have hs1 : w.heap.size + 3 ≤ w1.heap.size := by have := b1.size; omega
  clear b1 E3 Z3 S3 P3 hs3 B3
  cases hsb : stateB ps (fs, fu, os, dn, vl)
  · obtain ⟨e1, e2⟩ := goR_no hsb
    have e3 : (Rd, Rv, Ro, Rfu) = noRes := by rw [← HR.out, e1]
    cases e3
    obtain rfl : EE = 800 := by rw [← HE.out, e2]
    obtain ⟨c0, c1, c2, c3, f0, f1, f2, f3⟩ := Z1.out
    clear e1 e2
    go_wp2_with fail
    refine bodyPost_ret (v := .tuple #[.agg #[.int .i64 0, .int .i64 0, .slice none 0 0, .int .i64 0], .int .i64 800]) (by simp [results, Tryz.results19, go_sem, c0, c1, c2, c3]) rfl ⟨_, _, _, rfl, ⟨by simp, World.ownsRow_nil _ _ _ _⟩, below4 B1.out (by omega) _ _ _ _⟩
  obtain ⟨e1, e2⟩ := goR_yes hsb
  obtain rfl : EE = 0 := by rw [← HE.out, e2]
  have HV : Hid (resV (runV ps (fs, fu, os, dn, vl)) = (Rd, Rv, Ro, Rfu)) := hid (by rw [← e1]; exact HR.out)
  have HB := hid hsb
  have HF1 := hid (HF.out.kept B1.out)
  have HO1 := hid (HO.out.kept B1.out)
  have p1 := P1.out
  obtain ⟨x0, x1, x2, x3, x4, _, _⟩ := S1.out
  clear e1 e2 hsb HE HR
  go_wp2_with fail
  refine (machNew_any _ _ _ ps _ _ _ fs fu _ _ _ os dn vl _ (HP.out.kept B1.out) HF1.out HO1.out).mono ?_
  rintro e w2 ⟨mb, base, rfl, M2⟩
  have MM := hid M2
  have hbs := M2.hb
  clear M2 p1 x0 x1 x2 x3 x4
  go_wp2_with fail
  refine (run_any ps (fs, fu, os, dn, vl) _ MM.out HB.out (HP.out.kept B1.out)).mono ?_
  have hv := HV.out
  generalize runV ps (fs, fu, os, dn, vl) = S at hv ⊢
  obtain ⟨Sf, Sfu, So, Sd, Sv⟩ := S
  cases hv
  simp only []
  rintro e w5 ⟨ra, rn, rc, rfl, r5, b5⟩
  obtain ⟨d0, d1, d2, d3, f0, f1, f2, f3⟩ := Z1.out.kept b5
  have B5 := hid (kt B1.out b5)
  have R5 := hid r5
  clear b5 r5
  go_wp2_with fail
  refine bodyPost_ret (v := .tuple #[.agg #[.int .i64 Sd, .int .i64 Sv, .slice ra rn rc, .int .i64 Sfu], .int .i64 0]) (by simp [results, Tryz.results19, go_sem, d0, d1, d2, d3]) rfl ⟨_, _, _, rfl, ⟨R5.out.1, ?_⟩, below4 B5.out (by omega) _ _ _ _⟩
  exact owns_base (owns_set (owns_set (owns_set (owns_set R5.out.2 ⟨w.heap.size + 1 + 1, 0, none⟩ _ (by simp; omega)) ⟨w.heap.size + 1 + 1, 1, none⟩ _ (by simp; omega)) ⟨w.heap.size + 1 + 1, 2, none⟩ _ (by simp; omega)) ⟨w.heap.size + 1 + 1, 3, none⟩ _ (by simp; omega)) (by omega)

set_option maxRecDepth 100000 in
set_option maxHeartbeats 8000000 in
theorem evalEval_any (pa : Option Addr) (pn pc : Nat) (ps : List Fn) (aa : Option Addr) (an ac : Nat) (args : List Int) (fuel : Int) (w : World) (hp : Fns w pa pn pc ps) (ha : Ints w aa an ac args) (ld : Ld w) :
    Calls Tryz.prog 17 #[.agg #[.slice pa pn pc], .slice aa an ac, .int .i64 fuel] w fun e w' => ∃ ra rn rc, e = .returned (.tuple #[.agg #[.int .i64 (evalR ps args fuel).1, .int .i64 (evalR ps args fuel).2.1, .slice ra rn rc, .int .i64 (evalR ps args fuel).2.2.2], .int .i64 (evalE ps args fuel)]) ∧
      Row1 w' w.heap.size (.slice ra rn rc) (evalR ps args fuel).2.2.1 ∧ Below w.heap.size w w' := by
  have HP := hid hp
  have HA := hid ha
  have LD := hid ld
  clear hp ha ld
  obtain ⟨⟨Rd, Rv, Ro, Rfu⟩, hR⟩ : ∃ R, evalR ps args fuel = R := ⟨_, rfl⟩
  obtain ⟨EE, hE⟩ : ∃ E, evalE ps args fuel = E := ⟨_, rfl⟩
  rw [hR, hE]
  simp only []
  have HR := hid hR
  have HE := hid hE
  clear hR hE
  have W3 : Hid (∃ w3 : World, w3 = (w.alloc (.cells #[.slice pa pn pc] 24)).alloc (.cells #[.int .i64 0, .int .i64 0, .slice none 0 0, .int .i64 0] 55)) := hid ⟨_, rfl⟩
  obtain ⟨w3, hw3⟩ := W3.out
  have hs3 : w3.heap.size = w.heap.size + 2 := by rw [hw3]; simp
  have B3 : Hid (Below w.heap.size w w3) := hid (by rw [hw3]; exact Below.alloc (Below.alloc (Below.refl _ _) (Nat.le_refl _) _) (by simp) _)
  have Z3 : Hid (Zr4 w3 (w.heap.size + 1)) := hid (by rw [hw3]; exact ⟨by simp [go_sem], by simp [go_sem], by simp [go_sem], by simp [go_sem], by simp [go_sem], by simp [go_sem], by simp [go_sem], by simp [go_sem]⟩)
  have P3 : Hid (w3.cell? ⟨w.heap.size, 0, none⟩ = some (.slice pa pn pc)) := hid (by rw [hw3]; simp [go_sem])
  have E3 := hid hw3
  clear hw3 W3
  go_enter Tryz.func17, Tryz.ntmps17
  go_wp2_with fail
  refine calls_inW (U := w3) (by rw [E3.out]) ?_
  refine (frameStart_any _ _ _ ps _ _ _ args fuel _ (HP.out.kept B3.out) (HA.out.kept B3.out) (LD.out.up B3.out)).mono ?_
  cases hsb : startB ps args fuel
  · obtain ⟨e1, e2⟩ := evalR_no hsb
    have e3 : (Rd, Rv, Ro, Rfu) = noRes := by rw [← HR.out, e1]
    cases e3
    obtain rfl : EE = 800 := by rw [← HE.out, e2]
    rw [(startB_bad hsb).1, (startB_bad hsb).2]
    simp only [noSt]
    rintro e w1 ⟨v1, rfl, o1, b1⟩
    obtain ⟨va, vn, vc, rfl, _⟩ := o1.reads (by decide)
    have hA1 : Below w1.heap.size w1 (w1.alloc (.cells #[.slice va vn vc, .int .i64 0, .slice none 0 0, .int .i64 0, .int .i64 0] 28)) := Below.alloc (Below.refl _ _) (Nat.le_refl _) _
    obtain ⟨c0, c1, c2, c3, f0, f1, f2, f3⟩ := Z3.out.kept (kt b1 hA1)
    have B1 := hid (kt B3.out (kt b1 hA1))
    have hs1 := b1.size
    clear b1 hA1 o1 e1 e2 hsb
    go_wp2_with fail
    refine bodyPost_ret (v := .tuple #[.agg #[.int .i64 0, .int .i64 0, .slice none 0 0, .int .i64 0], .int .i64 800]) (by simp [results, Tryz.results17, go_sem, c0, c1, c2, c3]) rfl ⟨_, _, _, rfl, ⟨by simp, World.ownsRow_nil _ _ _ _⟩, below4 B1.out (by omega) _ _ _ _⟩
  · obtain ⟨e1, e2⟩ := evalR_yes hsb
    rw [(goR_yes (start_state hsb)).2] at e2
    obtain rfl : EE = 0 := by rw [← HE.out, e2]
    have HG : Hid (goR ps (startV ps args fuel) = (Rd, Rv, Ro, Rfu) ∧ goE ps (startV ps args fuel) = 0) := hid ⟨by rw [← e1]; exact HR.out, (goR_yes (start_state hsb)).2⟩
    rw [(start_yes hsb).1] at HG
    rw [(start_yes hsb).1, (start_yes hsb).2]
    simp only []
    rintro e w1 ⟨v1, rfl, o1, b1⟩
    obtain ⟨va, vn, vc, rfl, h1⟩ := o1.reads (by simp)
    have hA1 : Below w1.heap.size w1 (w1.alloc (.cells #[.slice va vn vc, .int .i64 fuel, .slice none 0 0, .int .i64 0, .int .i64 0] 28)) := Below.alloc (Below.refl _ _) (Nat.le_refl _) _
    have D1 := hid (kt b1 hA1)
    have F1 := hid (h1.kept hA1)
    have B1 := hid (kt B3.out D1.out)
    have Z1 := hid (Z3.out.kept D1.out)
    have p1 := kept_cell D1.out P3.out
    have hs1 := b1.size
    clear b1 hA1 o1 h1 e1 e2 hsb HE HR
    go_wp2_with fail
    refine (evalGo_any _ _ _ ps _ _ _ _ fuel none 0 0 [] 0 0 _ (HP.out.kept B1.out) F1.out (Ints.nil _) (LD.out.up B1.out)).mono ?_
    rw [HG.out.1, HG.out.2]
    simp only []
    rintro e w5 ⟨ra, rn, rc, rfl, r5, b5⟩
    obtain ⟨d0, d1, d2, d3, f0, f1, f2, f3⟩ := Z1.out.kept b5
    have B5 := hid (kt B1.out b5)
    have R5 := hid r5
    clear b5 r5 p1
    go_wp2_with fail
    refine bodyPost_ret (v := .tuple #[.agg #[.int .i64 Rd, .int .i64 Rv, .slice ra rn rc, .int .i64 Rfu], .int .i64 0]) (by simp [results, Tryz.results17, go_sem, d0, d1, d2, d3]) rfl ⟨_, _, _, rfl, ⟨R5.out.1, ?_⟩, below4 B5.out (by omega) _ _ _ _⟩
    have r := R5.out.2
    simp only [World.size_alloc] at r
    exact owns_base (owns_set (owns_set (owns_set (owns_set r ⟨w.heap.size + 1, 0, none⟩ _ (by simp; omega)) ⟨w.heap.size + 1, 1, none⟩ _ (by simp; omega)) ⟨w.heap.size + 1, 2, none⟩ _ (by simp; omega)) ⟨w.heap.size + 1, 3, none⟩ _ (by simp; omega)) (by omega)

end Go.Proofs.YtcngmkbgcfhmdaaGreatDoor

namespace Go.Proofs.YtcngmkbgcfhmdaaGreatDoor
open Go.RowKit
set_option linter.unusedVariables false

/-- Step by step, looked at each time. -/
def goD (ps : List Fn) : Nat → St → St
  | 0, s => s
  | n + 1, s => if s.2.2.2.1 = 0 then goD ps n (stepV ps s) else s
theorem goD_eq {ps : List Fn} : ∀ (n : Nat) (s : St), goD ps n s = goV ps n s
  | 0, s => rfl
  | n + 1, s => by
    unfold goD
    split
    · exact goD_eq n _
    · rename_i h; exact (goV_over h _).symm
def evalD (ps : List Fn) (args : List Int) (fuel : Int) (n : Nat) : Res := (resV (goD ps n ([(0, 0, freshL (ps.getD 0 noFn).2.1.toNat args, [])], fuel, [], 0, 0)))
theorem evalD_eq {ps : List Fn} {args : List Int} {fuel : Int} {n : Nat} {r : Res} (h1 : startB ps args fuel = true) (h2 : evalD ps args fuel n = r) (hr : ¬ r.1 = 0) : evalR ps args fuel = r ∧ evalE ps args fuel = 0 := by
  unfold evalD at h2
  rw [goD_eq, ← (start_yes h1).1] at h2
  have e : evalR ps args fuel = resV (runV ps (startV ps args fuel)) := if_pos h1
  have e2 : evalE ps args fuel = 0 := if_pos h1
  refine ⟨?_, e2⟩
  rw [e, run_at (start_state h1) (n := n) (by rw [← h2] at hr; exact hr), h2]

def sumC : List (Int × Int) := [(1, 0), (13, 13), (1, 0), (10, 0), (15, 0), (1, 1), (3, 0), (2, 1), (1, 0), (0, 1), (4, 0), (2, 0), (12, 0), (1, 1), (16, 0)]
def downL (k : Nat) : List Int := (List.range k).map (fun i : Nat => ((k - i : Nat) : Int))
theorem sum_runs : ∀ k : Nat, k < 32 → startB [(1, 2, sumC)] [(k : Int)] 1000 = true ∧ evalD [(1, 2, sumC)] [(k : Int)] 1000 (13 * k + 5) = (1, (k : Int) * ((k : Int) + 1) / 2, downL k, 1000 - 13 * (k : Int) - 4) := by decide +kernel
def selfC : List (Int × Int) := [(1, 0), (13, 9), (1, 0), (1, 0), (0, 1), (4, 0), (14, 0), (5, 0), (16, 0), (0, 1), (16, 0)]
def factV : Nat → Int
  | 0 => 1
  | n + 1 => factV n * ((n : Int) + 1)
theorem self_runs : ∀ k : Nat, k < 12 → startB [(1, 1, selfC)] [(k : Int)] 1000 = true ∧ evalD [(1, 1, selfC)] [(k : Int)] 1000 (9 * k + 5) = (1, factV k, [], 1000 - 9 * (k : Int) - 4) := by decide +kernel
theorem self_deep : ∀ k : Nat, k < 4 → startB [(1, 1, selfC)] [((12 + k : Nat) : Int)] 1000 = true ∧ evalD [(1, 1, selfC)] [((12 + k : Nat) : Int)] 1000 90 = (3, 0, [], 916) := by decide +kernel

end Go.Proofs.YtcngmkbgcfhmdaaGreatDoor

namespace Go.Proofs.YtcngmkbgcfhmdaaGreatDoor
open Go.RowKit
set_option linter.unusedVariables false
attribute [local go_sem ↓] Go.wp_at_zero Go.wp_at_succ

theorem keptDrew {W w : World} (h : Below W.heap.size W w) : Below W.heap.size W w.drew := Below.drew h
/-- A result in a block of its own. -/
structure RX (w : World) (b : Nat) (d v : Int) (o : Value) (f : Int) : Prop where
  c0 : w.cell? ⟨b, 0, none⟩ = some (.int .i64 d)
  c1 : w.cell? ⟨b, 1, none⟩ = some (.int .i64 v)
  c2 : w.cell? ⟨b, 2, none⟩ = some o
  c3 : w.cell? ⟨b, 3, none⟩ = some (.int .i64 f)
theorem RX.kept {w w' : World} {b : Nat} {d v f : Int} {o : Value} (h : RX w b d v o f) (hb : Below w.heap.size w w') : RX w' b d v o f := ⟨kept_cell hb h.c0, kept_cell hb h.c1, kept_cell hb h.c2, kept_cell hb h.c3⟩
theorem ints_lit8 (w : World) (l : List Int) (t : TypeId) (hl : l.length * 8 ≤ 140737488351232) : Ints (w.alloc (.cells (ints l).toArray t)) (some ⟨w.heap.size, 0, none⟩) l.length l.length l := by
  have h := World.ownsRow_lit (e := t) (size := 1) (base := 0) w (ints l).toArray l.length (Nat.zero_le _) (by unfold maxLen; omega) (by simp [ints_len])
  obtain ⟨a, n, c, e, hi⟩ := ints_of_owns (l := l) (by simpa using h) hl
  cases e
  exact hi
theorem ints_new8 {u : World} {H n : Nat} {l : List Int} {cs : Array Value} {t : TypeId} (hH : u.heap.size = H) (hcs : cs = (ints l).toArray) (hn : n = l.length) (hl : l.length * 8 ≤ 140737488351232) : Ints (u.alloc (.cells cs t)) (some ⟨H, 0, none⟩) n n l := by
  subst hH
  subst hcs
  subst hn
  exact ints_lit8 u l t hl
theorem fns_one8 {w : World} {a : Option Addr} {n c : Nat} {l : List (Int × Int)} (h : Inss w a n c l) (x y : Int) (t : TypeId) : Fns (w.alloc (.cells #[.int .i64 x, .int .i64 y, .slice a n c] t)) (some ⟨w.heap.size, 0, none⟩) 1 1 [(x, y, l)] := by
  refine ⟨rfl, Nat.le_refl _, by omega, fun e => (by cases e), fun _ => ⟨w.heap.size, 0, rfl, fun i hi => ?_⟩⟩
  have h0 : i = 0 := by simpa using hi
  subst h0
  exact ⟨by simp [go_sem], by simp [go_sem], a, n, c, by simp [go_sem], h.kept (Below.alloc (Below.refl _ _) (Nat.le_refl _) _)⟩
def sameR (r s : Res) : Bool := decide (r.1 = s.1) && (decide (r.2.1 = s.2.1) && (decide (r.2.2.2 = s.2.2.2) && decide (r.2.2.1 = s.2.2.1)))
theorem sameR_self (r : Res) : sameR r r = true := by simp [sameR]

set_option maxRecDepth 100000 in
set_option maxHeartbeats 4000000 in
theorem sameResult_any (d v : Int) (a : Option Addr) (n c : Nat) (o : List Int) (f : Int) (d' v' : Int) (a' : Option Addr) (n' c' : Nat) (o' : List Int) (f' : Int) (w : World) (h : Ints w a n c o) (h' : Ints w a' n' c' o') :
    Calls Tryz.prog 21 #[.agg #[.int .i64 d, .int .i64 v, .slice a n c, .int .i64 f], .agg #[.int .i64 d', .int .i64 v', .slice a' n' c', .int .i64 f']] w fun e w' => e = .returned (.bool (sameR (d, v, o, f) (d', v', o', f'))) ∧ Below w.heap.size w w' := by
  have G : Hid (Below w.heap.size w ((w.alloc (.cells #[.int .i64 d, .int .i64 v, .slice a n c, .int .i64 f] 55)).alloc (.cells #[.int .i64 d', .int .i64 v', .slice a' n' c', .int .i64 f'] 55))) := hid (by go_grown)
  have I := hid (And.intro h h')
  clear h h'
  by_cases h1 : d = d'
  rotate_left
  · have h1' : (d == d') = false := by simpa using h1
    go_enter Tryz.func21, Tryz.ntmps21
    go_wp2_with fail
    go_ret
    exact ⟨ret_bool (by simp [sameR, h1]), G.out⟩
  subst h1
  by_cases h2 : v = v'
  rotate_left
  · have h2' : (v == v') = false := by simpa using h2
    go_enter Tryz.func21, Tryz.ntmps21
    go_wp2_with fail
    go_ret
    exact ⟨ret_bool (by simp [sameR, h2]), G.out⟩
  subst h2
  by_cases h3 : f = f'
  rotate_left
  · have h3' : (f == f') = false := by simpa using h3
    go_enter Tryz.func21, Tryz.ntmps21
    go_wp2_with fail
    go_ret
    exact ⟨ret_bool (by simp [sameR, h3]), G.out⟩
  subst h3
  have E : Hid (sameR (d, v, o, f) (d, v, o', f) = decide (o = o')) := hid (by simp [sameR])
  go_enter Tryz.func21, Tryz.ntmps21
  go_wp2_with fail
  refine (sameInts_any _ _ _ _ _ _ o o' _ (I.out.1.kept G.out) (I.out.2.kept G.out)).mono ?_
  rintro e w1 ⟨rfl, b1⟩
  go_wp2_with fail
  go_ret
  exact ⟨ret_bool E.out.symm, kt G.out b1⟩

def oneC8 : List (Int × Int) := [(1, 0), (0, 2), (14, 1), (10, 0), (15, 0), (16, 0)]
def addC8 : List (Int × Int) := [(1, 0), (1, 1), (3, 0), (16, 0)]
def twoL8 : List Fn := [(1, 1, oneC8), (2, 2, addC8)]
set_option maxRecDepth 100000 in
set_option maxHeartbeats 2000000 in
theorem two8_any (w : World) : Calls Tryz.prog 39 #[] w fun e w' => ∃ v vn vc, e = .returned (.agg #[.slice v vn vc]) ∧ Fns w' v vn vc twoL8 ∧ Below w.heap.size w w' := by
  have W : Hid (∃ u : World, u = allocs w [.cells #[.slice (some ⟨w.heap.size + 1 + 1 + 1, 0, none⟩) 2 2] 24, .cells (flat2 oneC8).toArray 45, .cells (flat2 addC8).toArray 45, .cells #[.int .i64 1, .int .i64 1, .slice (some ⟨w.heap.size + 1, 0, none⟩) 6 6, .int .i64 2, .int .i64 2, .slice (some ⟨w.heap.size + 1 + 1, 0, none⟩) 4 4] 66]) := hid ⟨_, rfl⟩
  obtain ⟨u, hu⟩ := W.out
  have B : Hid (Below w.heap.size w u) := hid (by rw [hu]; exact allocs_below _ _)
  have F : Hid (Fns u (some ⟨w.heap.size + 1 + 1 + 1, 0, none⟩) 2 2 twoL8) := hid (by
    rw [hu]
    exact fns_two (a := some ⟨w.heap.size + 1, 0, none⟩) (n := 6) (c := 6) (a' := some ⟨w.heap.size + 2, 0, none⟩) (n' := 4) (c' := 4) (allocs_inss w _ 1 oneC8 45 rfl (by decide)) (allocs_inss w _ 2 addC8 45 rfl (by decide))
      (allocs_cell w _ 3 _ 66 rfl 0 _ rfl) (allocs_cell w _ 3 _ 66 rfl 1 _ rfl) (allocs_cell w _ 3 _ 66 rfl 2 _ rfl) (allocs_cell w _ 3 _ 66 rfl 3 _ rfl) (allocs_cell w _ 3 _ 66 rfl 4 _ rfl) (allocs_cell w _ 3 _ 66 rfl 5 _ rfl))
  have P0 : Hid (u.cell? ⟨w.heap.size, 0, none⟩ = some (.slice (some ⟨w.heap.size + 1 + 1 + 1, 0, none⟩) 2 2)) := hid (by rw [hu]; exact allocs_cell w _ 0 _ 24 rfl 0 _ rfl)
  have E := hid hu
  clear hu W
  go_enter Tryz.func39, Tryz.ntmps39
  go_wp2_with fail
  refine bodyPost_ret (v := .agg #[.slice (some ⟨w.heap.size + 1 + 1 + 1, 0, none⟩) 2 2]) (by simp [results, Tryz.results39, go_sem]) rfl ⟨_, _, _, rfl, ?_, ?_⟩
  · have h := F.out
    rw [E.out] at h
    exact h
  · have h := B.out
    rw [E.out] at h
    exact h

/-- Eval, as the statements read what it tells. -/
theorem eval_read (pa : Option Addr) (pn pc : Nat) (ps : List Fn) (aa : Option Addr) (an ac : Nat) (args : List Int) (fuel : Int) (Rd Rv : Int) (Ro : List Int) (Rfu E : Int) (w : World) (hR : evalR ps args fuel = (Rd, Rv, Ro, Rfu)) (hE : evalE ps args fuel = E) (hp : Fns w pa pn pc ps) (ha : Ints w aa an ac args) (ld : Ld w) :
    Calls Tryz.prog 17 #[.agg #[.slice pa pn pc], .slice aa an ac, .int .i64 fuel] w fun e w' => ∃ ra rn rc, e = .returned (.tuple #[.agg #[.int .i64 Rd, .int .i64 Rv, .slice ra rn rc, .int .i64 Rfu], .int .i64 E]) ∧ Ints w' ra rn rc Ro ∧ Below w.heap.size w w' := by
  refine (evalEval_any pa pn pc ps aa an ac args fuel w hp ha ld).mono ?_
  rw [hR, hE]
  rintro e w' ⟨ra, rn, rc, rfl, r, b⟩
  obtain ⟨_, _, _, e1, h1⟩ := ints_of_owns r.2 r.1
  cases e1
  exact ⟨ra, rn, rc, rfl, h1, b⟩
/-- Go, as the statements read what it tells. -/
theorem go_read (pa : Option Addr) (pn pc : Nat) (ps : List Fn) (fa : Option Addr) (fn fc : Nat) (fs : List Fr) (fu : Int) (oa : Option Addr) (on oc : Nat) (os : List Int) (dn vl : Int) (Rd Rv : Int) (Ro : List Int) (Rfu E : Int) (w : World) (hR : goR ps (fs, fu, os, dn, vl) = (Rd, Rv, Ro, Rfu)) (hE : goE ps (fs, fu, os, dn, vl) = E) (hp : Fns w pa pn pc ps) (hf : Frs w fa fn fc fs) (ho : Ints w oa on oc os) (ld : Ld w) :
    Calls Tryz.prog 19 #[.agg #[.slice pa pn pc], .agg #[.slice fa fn fc, .int .i64 fu, .slice oa on oc, .int .i64 dn, .int .i64 vl]] w fun e w' => ∃ ra rn rc, e = .returned (.tuple #[.agg #[.int .i64 Rd, .int .i64 Rv, .slice ra rn rc, .int .i64 Rfu], .int .i64 E]) ∧ Ints w' ra rn rc Ro ∧ Below w.heap.size w w' := by
  refine (evalGo_any pa pn pc ps fa fn fc fs fu oa on oc os dn vl w hp hf ho ld).mono ?_
  rw [hR, hE]
  rintro e w' ⟨ra, rn, rc, rfl, r, b⟩
  obtain ⟨_, _, _, e1, h1⟩ := ints_of_owns r.2 r.1
  cases e1
  exact ⟨ra, rn, rc, rfl, h1, b⟩
theorem calls_to {P : Program} {f : FuncId} {args : Array Value} {W U : World} {Q : Ending → World → Prop} (h : U = W) (k : Calls P f args U Q) : Calls P f args W Q := h ▸ k
theorem ints_newA {w : World} {t : TypeId} (z : Int) : Ints (w.alloc (.cells #[.int .i64 z] t)) (some ⟨w.heap.size, 0, none⟩) 1 1 [z] :=
  ⟨rfl, by decide, by decide, fun h => (by cases h), fun _ => ⟨_, _, rfl, fun i hi => by
    obtain rfl : i = 0 := by omega
    simp [go_sem]⟩⟩
theorem two8_a : evalR twoL8 [5] 99 = (1, 7, [7], 89) ∧ evalE twoL8 [5] 99 = 0 := evalD_eq (n := 12) (by decide +kernel) (by decide +kernel) (by decide)
theorem two8_b : evalR twoL8 [5] 3 = (4, 0, [], 0) ∧ evalE twoL8 [5] 3 = 0 := evalD_eq (n := 12) (by decide +kernel) (by decide +kernel) (by decide)
theorem two8_g : evalR twoL8 [] 3 = (0, 0, [], 0) ∧ evalE twoL8 [] 3 = 800 := evalR_no (by decide +kernel)
theorem two8_h : goR twoL8 ([], 0, [], 0, 0) = (0, 0, [], 0) ∧ goE twoL8 ([], 0, [], 0, 0) = 800 := goR_no (by decide +kernel)

set_option maxRecDepth 100000 in
set_option maxHeartbeats 8000000 in
theorem awake8_any (w : World) (ld : Ld w) : Calls Tryz.prog 23 #[] w fun e w' => e = .returned (.bool true) ∧ Below w.heap.size w w' := by
  have LD := hid ld
  clear ld
  go_enter Tryz.func23, Tryz.ntmps23
  go_wp2_with fail
  refine (two8_any _).mono ?_
  rintro e w1 ⟨pv, pn, pc, rfl, f1, b1⟩
  have hA : Below w1.heap.size w1 (w1.alloc (.cells #[.slice pv pn pc] 24)) := Below.alloc (Below.refl _ _) (Nat.le_refl _) _
  have P1 : Hid ((w1.alloc (.cells #[.slice pv pn pc] 24)).cell? ⟨w1.heap.size, 0, none⟩ = some (.slice pv pn pc)) := hid (by simp [go_sem])
  have F1 := hid (f1.kept hA)
  have B1 := hid (kt b1 hA)
  have I1 : Hid (Ints ((w1.alloc (.cells #[.slice pv pn pc] 24)).alloc (.cells #[.int .i64 5] 3)) (some ⟨w1.heap.size + 1, 0, none⟩) 1 1 [5]) := hid (ints_new8 (by simp) rfl rfl (by decide))
  have A1 : Hid (Below (w1.alloc (.cells #[.slice pv pn pc] 24)).heap.size (w1.alloc (.cells #[.slice pv pn pc] 24)) ((w1.alloc (.cells #[.slice pv pn pc] 24)).alloc (.cells #[.int .i64 5] 3))) := hid (Below.alloc (Below.refl _ _) (Nat.le_refl _) _)
  clear f1 b1 hA
  go_wp2_with fail
  refine (eval_read _ _ _ twoL8 _ 1 1 [5] 99 1 7 [7] 89 0 _ two8_a.1 two8_a.2 (F1.out.kept A1.out) I1.out (LD.out.up (kt B1.out A1.out))).mono ?_
  rintro e w2 ⟨ra, rn, rc, rfl, o2, b2⟩
  have hA : Below w2.heap.size w2 (w2.alloc (.cells #[.int .i64 1, .int .i64 7, .slice ra rn rc, .int .i64 89] 55)) := Below.alloc (Below.refl _ _) (Nat.le_refl _) _
  have D2 := hid (kt (kt A1.out b2) hA)
  have O2 := hid (o2.kept hA)
  have X2 : Hid (RX (w2.alloc (.cells #[.int .i64 1, .int .i64 7, .slice ra rn rc, .int .i64 89] 55)) w2.heap.size 1 7 (.slice ra rn rc) 89) := hid ⟨by simp [go_sem], by simp [go_sem], by simp [go_sem], by simp [go_sem]⟩
  have B2 := hid (kt B1.out D2.out)
  have F2 := hid (F1.out.kept D2.out)
  have P2 := hid (kept_cell D2.out P1.out)
  have p2 := P2.out
  have I2 : Hid (Ints ((w2.alloc (.cells #[.int .i64 1, .int .i64 7, .slice ra rn rc, .int .i64 89] 55)).alloc (.cells #[.int .i64 5] 3)) (some ⟨w2.heap.size + 1, 0, none⟩) 1 1 [5]) := hid (ints_new8 (by simp) rfl rfl (by decide))
  have A2 : Hid (Below (w2.alloc (.cells #[.int .i64 1, .int .i64 7, .slice ra rn rc, .int .i64 89] 55)).heap.size (w2.alloc (.cells #[.int .i64 1, .int .i64 7, .slice ra rn rc, .int .i64 89] 55)) ((w2.alloc (.cells #[.int .i64 1, .int .i64 7, .slice ra rn rc, .int .i64 89] 55)).alloc (.cells #[.int .i64 5] 3))) := hid (Below.alloc (Below.refl _ _) (Nat.le_refl _) _)
  clear o2 b2 hA I1 A1
  go_wp2_with fail
  refine (eval_read _ _ _ twoL8 _ 1 1 [5] 3 4 0 [] 0 0 _ two8_b.1 two8_b.2 (F2.out.kept A2.out) I2.out (LD.out.up (kt B2.out A2.out))).mono ?_
  rintro e w3 ⟨sa, sn, sc, rfl, o3, b3⟩
  have hA : Below w3.heap.size w3 (w3.alloc (.cells #[.int .i64 4, .int .i64 0, .slice sa sn sc, .int .i64 0] 55)) := Below.alloc (Below.refl _ _) (Nat.le_refl _) _
  have D3 := hid (kt (kt A2.out b3) hA)
  have O3 := hid (o3.kept hA)
  have X3 : Hid (RX (w3.alloc (.cells #[.int .i64 4, .int .i64 0, .slice sa sn sc, .int .i64 0] 55)) w3.heap.size 4 0 (.slice sa sn sc) 0) := hid ⟨by simp [go_sem], by simp [go_sem], by simp [go_sem], by simp [go_sem]⟩
  have B3 := hid (kt B2.out D3.out)
  have F3 := hid (F2.out.kept D3.out)
  have P3 := hid (kept_cell D3.out P2.out)
  have X32 := hid (X2.out.kept D3.out)
  have O32 := hid (O2.out.kept D3.out)
  have p3 := P3.out
  clear o3 b3 hA I2 A2 p2
  go_wp2_with fail
  refine (eval_read _ _ _ twoL8 none 0 0 [] 3 0 0 [] 0 800 _ two8_g.1 two8_g.2 F3.out (Ints.nil _) (LD.out.up B3.out)).mono ?_
  rintro e w4 ⟨ta, tn, tc, rfl, o4, b4⟩
  have hA : Below w4.heap.size w4 (w4.alloc (.cells #[.int .i64 0, .int .i64 0, .slice ta tn tc, .int .i64 0] 55)) := Below.alloc (Below.refl _ _) (Nat.le_refl _) _
  have D4 := hid (kt b4 hA)
  have B4 := hid (kt B3.out D4.out)
  have F4 := hid (F3.out.kept D4.out)
  have P4 := hid (kept_cell D4.out P3.out)
  have X42 := hid (X32.out.kept D4.out)
  have O42 := hid (O32.out.kept D4.out)
  have X43 := hid (X3.out.kept D4.out)
  have O43 := hid (O3.out.kept D4.out)
  have p4 := P4.out
  clear o4 b4 hA p3
  go_wp2_with fail
  refine (go_read _ _ _ twoL8 none 0 0 [] 0 none 0 0 [] 0 0 0 0 [] 0 800 _ two8_h.1 two8_h.2 F4.out (Frs.nil _) (Ints.nil _) (LD.out.up B4.out)).mono ?_
  rintro e w5 ⟨ua, un, uc, rfl, o5, b5⟩
  have hA : Below w5.heap.size w5 (w5.alloc (.cells #[.int .i64 0, .int .i64 0, .slice ua un uc, .int .i64 0] 55)) := Below.alloc (Below.refl _ _) (Nat.le_refl _) _
  have D5 := hid (kt b5 hA)
  have B5 := hid (kt B4.out D5.out)
  have X52 := hid (X42.out.kept D5.out)
  have O52 := hid (O42.out.kept D5.out)
  have X53 := hid (X43.out.kept D5.out)
  have O53 := hid (O43.out.kept D5.out)
  obtain ⟨c0, c1, c2, c3⟩ := X52.out
  have I5 : Hid (Ints ((w5.alloc (.cells #[.int .i64 0, .int .i64 0, .slice ua un uc, .int .i64 0] 55)).alloc (.cells #[.int .i64 7] 3)) (some ⟨w5.heap.size + 1, 0, none⟩) 1 1 [7]) := hid (ints_new8 (by simp) rfl rfl (by decide))
  have A5 : Hid (Below (w5.alloc (.cells #[.int .i64 0, .int .i64 0, .slice ua un uc, .int .i64 0] 55)).heap.size (w5.alloc (.cells #[.int .i64 0, .int .i64 0, .slice ua un uc, .int .i64 0] 55)) ((w5.alloc (.cells #[.int .i64 0, .int .i64 0, .slice ua un uc, .int .i64 0] 55)).alloc (.cells #[.int .i64 7] 3))) := hid (Below.alloc (Below.refl _ _) (Nat.le_refl _) _)
  clear o5 b5 hA p4
  go_wp2_with fail
  refine (sameResult_any 1 7 _ _ _ [7] 89 1 7 _ 1 1 [7] 89 _ (O52.out.kept A5.out) I5.out).mono ?_
  rintro e w6 ⟨rfl, b6⟩
  rw [sameR_self]
  have D6 := hid (kt A5.out b6)
  have B6 := hid (kt B5.out D6.out)
  obtain ⟨d0, d1, d2, d3⟩ := X53.out.kept D6.out
  clear b6 c0 c1 c2 c3
  go_wp2_with (go_at_call 11; refine (num_any _ _).mono ?_; rintro e x ⟨rfl, hw⟩; rw [hw]; clear hw)
  refine (sameResult_any 4 0 _ _ _ [] 0 4 0 none 0 0 [] 0 _ (O53.out.kept D6.out) (Ints.nil _)).mono ?_
  rintro e w7 ⟨rfl, b7⟩
  rw [sameR_self]
  have B7 := hid (kt B6.out b7)
  clear b7 d0 d1 d2 d3
  go_wp2_with (go_at_call 11; refine (num_any _ _).mono ?_; rintro e x ⟨rfl, hw⟩; rw [hw]; clear hw)
  go_ret
  exact ⟨rfl, B7.out⟩

end Go.Proofs.YtcngmkbgcfhmdaaGreatDoor

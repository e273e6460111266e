/- Plain reckoning: the bytes of a program that may be packed give it back; so a text is the bytes of one program at most. -/
import Derived.Test.YtlknaanheieneaaDoorPlainGet
namespace Go.Proofs.YtlknaanheieneaaDoor
open Go.RowKit
set_option linter.unusedVariables false

theorem nv_drop {s : ByteArray} {p : Nat} {x : Int} {r : List Int} (h : (sb s).drop p = x :: r) (b : Bool) : nv s p = x ∧ nxA s p = p + 1 ∧ nxB s p b = b ∧ (sb s).drop (p + 1) = r := by
  have h0 : (sb s)[p]? = some x := by
    have := congrArg (fun l => l[0]?) h
    simpa using this
  have hlt : p < s.size := by
    rw [← sb_len]
    rcases Nat.lt_or_ge p (sb s).length with h1 | h1
    · exact h1
    · rw [List.getElem?_eq_none h1] at h0; cases h0
  refine ⟨?_, if_pos hlt, if_pos hlt, ?_⟩
  · unfold nv; rw [List.getD_eq_getElem?_getD, h0]; rfl
  · rw [← List.drop_drop, h]; rfl
theorem cs_four (a : Int) (h : isNum a = true) : wrap32 (c0 a + c1 a * 256 + c2 a * 65536 + c3 a * 16777216) = a := by
  have h1 := (num_iff a).1 h
  unfold wrap32 c0 c1 c2 c3
  omega
theorem getIns_put {s : ByteArray} {p : Nat} {x : Int × Int} {r : List Int} (hm : mayB x.1 x.2 = true) (h : (sb s).drop p = insBytes x ++ r) :
    getIns s p false = (x, p + (insBytes x).length, false) ∧ (sb s).drop (p + (insBytes x).length) = r := by
  obtain ⟨k, a⟩ := x
  by_cases h0 : k = 0
  · subst h0
    have e : insBytes (0, a) = [0, c0 a, c1 a, c2 a, c3 a] := rfl
    rw [e] at h ⊢
    obtain ⟨v0, a0, b0, d0⟩ := nv_drop (b := false) h
    obtain ⟨v1, a1, b1, d1⟩ := nv_drop (b := false) d0
    obtain ⟨v2, a2, b2, d2⟩ := nv_drop (b := false) d1
    obtain ⟨v3, a3, b3, d3⟩ := nv_drop (b := false) d2
    obtain ⟨v4, a4, b4, d4⟩ := nv_drop (b := false) d3
    refine ⟨?_, d4⟩
    rw [getIns_const v0, b0, a0, b1, a1, b2, a2, b3, a3, b4, a4, v1, v2, v3, v4, cs_four a hm]
    rfl
  · cases hs : smallB k
    · rw [insBytes_else h0 hs] at h ⊢
      obtain ⟨v0, a0, b0, d0⟩ := nv_drop (b := false) h
      refine ⟨?_, d0⟩
      have hk : ¬ nv s p = 0 := by rw [v0]; exact h0
      have ha : a = 0 := by
        simp [smallB] at hs
        unfold mayB at hm
        simp only at hm
        rw [if_neg h0, if_neg (by omega), if_neg (by omega), if_neg (by omega)] at hm
        simp at hm
        exact hm.2.2
      rw [getIns_else hk (by rw [v0]; exact hs), b0, a0, v0, ha]
      rfl
    · rw [insBytes_small h0 hs] at h ⊢
      obtain ⟨v0, a0, b0, d0⟩ := nv_drop (b := false) h
      obtain ⟨v1, a1, b1, d1⟩ := nv_drop (b := false) d0
      refine ⟨?_, d1⟩
      have hk : ¬ nv s p = 0 := by rw [v0]; exact h0
      rw [getIns_small hk (by rw [v0]; exact hs), b0, a0, b1, a1, v0, v1]
      rfl
theorem codeSt_put {s : ByteArray} {p0 : Nat} {l : List (Int × Int)} {r : List Int} (hm : ∀ x ∈ l, mayB x.1 x.2 = true) (h : (sb s).drop p0 = codeBytes l ++ r) :
    ∀ j, j ≤ l.length → codeSt s p0 false j = (l.take j, p0 + (codeBytes (l.take j)).length, false) ∧ (sb s).drop (p0 + (codeBytes (l.take j)).length) = codeBytes (l.drop j) ++ r := by
  intro j
  induction j with
  | zero => intro _; simp [codeSt, codeBytes]; exact h
  | succ j ih =>
    intro hj
    obtain ⟨e1, e2⟩ := ih (by omega)
    have hlt : j < l.length := by omega
    have hd : l.drop j = l[j] :: l.drop (j + 1) := List.drop_eq_getElem_cons hlt
    rw [hd, show codeBytes (l[j] :: l.drop (j + 1)) = insBytes l[j] ++ codeBytes (l.drop (j + 1)) by unfold codeBytes; rw [List.flatMap_cons], List.append_assoc] at e2
    obtain ⟨g1, g2⟩ := getIns_put (hm _ (List.getElem_mem hlt)) e2
    have ht : l.take (j + 1) = l.take j ++ [l[j]] := List.take_succ_eq_append_getElem hlt
    have hlen : (codeBytes (l.take (j + 1))).length = (codeBytes (l.take j)).length + (insBytes l[j]).length := by rw [ht, codeBytes_snoc, List.length_append]
    refine ⟨?_, ?_⟩
    · rw [codeSt_next e1, g1, ht, codeBytes_snoc, List.length_append, Nat.add_assoc]
    · rw [hlen, ← Nat.add_assoc]; exact g2
theorem getFn_put {s : ByteArray} {p : Nat} {f : Fn} {r : List Int} (hf : fnB f = true) (h : (sb s).drop p = fnBytes f ++ r) :
    getFn s p false = (f, p + (fnBytes f).length, false) ∧ (sb s).drop (p + (fnBytes f).length) = r := by
  obtain ⟨x, y, l⟩ := f
  have e : fnBytes (x, y, l) = x :: y :: (l.length : Int) :: codeBytes l := rfl
  rw [e] at h
  obtain ⟨v0, a0, b0, d0⟩ := nv_drop (b := false) h
  obtain ⟨v1, a1, b1, d1⟩ := nv_drop (b := false) d0
  obtain ⟨v2, a2, b2, d2⟩ := nv_drop (b := false) d1
  have hm : ∀ x ∈ l, mayB x.1 x.2 = true := by
    unfold fnB codeB at hf
    simp only [Bool.and_eq_true, List.all_eq_true] at hf
    exact hf.2.2
  obtain ⟨c1, c2⟩ := codeSt_put hm d2 l.length (Nat.le_refl _)
  rw [List.take_length] at c1 c2
  have hlen : p + (fnBytes (x, y, l)).length = p + 1 + 1 + 1 + (codeBytes l).length := by rw [e]; simp; omega
  refine ⟨?_, ?_⟩
  · unfold getFn
    rw [b0, a0, b1, a1, b2, a2, v0, v1, v2, show ((l.length : Int)).toNat = l.length by omega, c1, hlen]
  · rw [hlen, c2]; simp [codeBytes]
theorem fnSt_put {s : ByteArray} {p0 : Nat} {l : List Fn} {r : List Int} (hm : ∀ x ∈ l, fnB x = true) (h : (sb s).drop p0 = fnsBytes l ++ r) :
    ∀ j, j ≤ l.length → fnSt s p0 false j = (l.take j, p0 + (fnsBytes (l.take j)).length, false) ∧ (sb s).drop (p0 + (fnsBytes (l.take j)).length) = fnsBytes (l.drop j) ++ r := by
  intro j
  induction j with
  | zero => intro _; simp [fnSt, fnsBytes]; exact h
  | succ j ih =>
    intro hj
    obtain ⟨e1, e2⟩ := ih (by omega)
    have hlt : j < l.length := by omega
    have hd : l.drop j = l[j] :: l.drop (j + 1) := List.drop_eq_getElem_cons hlt
    rw [hd, show fnsBytes (l[j] :: l.drop (j + 1)) = fnBytes l[j] ++ fnsBytes (l.drop (j + 1)) by unfold fnsBytes; rw [List.flatMap_cons], List.append_assoc] at e2
    obtain ⟨g1, g2⟩ := getFn_put (hm _ (List.getElem_mem hlt)) e2
    have ht : l.take (j + 1) = l.take j ++ [l[j]] := List.take_succ_eq_append_getElem hlt
    have hlen : (fnsBytes (l.take (j + 1))).length = (fnsBytes (l.take j)).length + (fnBytes l[j]).length := by rw [ht, fnsBytes_snoc, List.length_append]
    refine ⟨?_, ?_⟩
    · rw [fnSt_next e1, g1, ht, fnsBytes_snoc, List.length_append, Nat.add_assoc]
    · rw [hlen, ← Nat.add_assoc]; exact g2

theorem insBytes_bd {x : Int × Int} (hm : mayB x.1 x.2 = true) : ∀ y ∈ insBytes x, 0 ≤ y ∧ y ≤ 255 := by
  obtain ⟨k, a⟩ := x
  have hk := may_kind hm
  simp only at hk
  by_cases h0 : k = 0
  · subst h0
    intro y hy
    simp [insBytes0] at hy
    unfold c0 c1 c2 c3 at hy
    omega
  · cases hs : smallB k
    · rw [insBytes_else h0 hs]; intro y hy; simp at hy; omega
    · have := small_bd hm hs
      simp only at this
      rw [insBytes_small h0 hs]; intro y hy; simp at hy; omega
theorem fnBytes_bd {f : Fn} (hf : fnB f = true) : ∀ y ∈ fnBytes f, 0 ≤ y ∧ y ≤ 255 := by
  obtain ⟨x, y, l⟩ := f
  have hb := fnB_bd hf
  have hm : ∀ x ∈ l, mayB x.1 x.2 = true := by
    unfold fnB codeB at hf
    simp only [Bool.and_eq_true, List.all_eq_true] at hf
    exact hf.2.2
  intro z hz
  simp only [fnBytes, codeBytes, List.mem_append, List.mem_cons, List.mem_flatMap, List.not_mem_nil, or_false] at hz
  rcases hz with (rfl | rfl | rfl) | ⟨p, hp, hz⟩
  · omega
  · omega
  · omega
  · exact insBytes_bd (hm p hp) z hz
theorem putBytes_bd {l : List Fn} (hp : packsB l = true) : ∀ y ∈ putBytes l, 0 ≤ y ∧ y ≤ 255 := by
  unfold packsB at hp
  simp only [Bool.and_eq_true, List.all_eq_true, decide_eq_true_eq] at hp
  intro z hz
  simp only [putBytes, fnsBytes, List.mem_append, List.mem_cons, List.mem_flatMap, List.not_mem_nil, or_false] at hz
  rcases hz with (rfl | rfl | rfl | rfl) | ⟨p, hpm, hz⟩
  · omega
  · omega
  · omega
  · omega
  · exact fnBytes_bd (hp.2 p hpm) z hz
theorem sb_str {xs : List Int} (h : ∀ x ∈ xs, 0 ≤ x ∧ x ≤ 255) : sb (strOfNums xs) = xs := by
  unfold sb strOfNums
  simp only [List.map_map]
  conv => rhs; rw [← List.map_id xs]
  apply List.map_congr_left
  intro x hx
  have := h x hx
  simp
  omega
/-- The bytes of a program give it back. -/
theorem back_put {l : List Fn} {s : ByteArray} (hp : packsB l = true) (hs : strOfNums (putBytes l) = s) : fnSt s (nxA s 3) (nxB s 3 false) (nv s 3).toNat = (l, s.size, false) := by
  have hx : sb s = putBytes l := by rw [← hs]; exact sb_str (putBytes_bd hp)
  have hall : ∀ f ∈ l, fnB f = true := by
    unfold packsB at hp
    simp only [Bool.and_eq_true, List.all_eq_true] at hp
    exact hp.2
  have h3 : (sb s).drop 3 = (l.length : Int) :: fnsBytes l := by rw [hx]; rfl
  obtain ⟨v, a, b, d⟩ := nv_drop (b := false) h3
  obtain ⟨e1, e2⟩ := fnSt_put (r := []) hall (by rw [d]; simp) l.length (Nat.le_refl _)
  rw [v, a, b, show ((l.length : Int)).toNat = l.length by omega, e1, List.take_length]
  have hlen : 3 + 1 + (fnsBytes l).length = s.size := by rw [← sb_len, hx]; simp [putBytes]; omega
  rw [hlen]

end Go.Proofs.YtlknaanheieneaaDoor

/- What the document's own Get returns, said by the bytes: the program whose bytes the text is, or an error. -/
import Derived.Test.YtlknaanheieneaaDoorRefGet
import Derived.Test.YtlknaanheieneaaDoorPlainBack
import Derived.Test.YtlknaanheieneaaDoorSpoil
namespace Go.Proofs.YtlknaanheieneaaDoor
open Go.RowKit
set_option linter.unusedVariables false

theorem OwnFns.base {e f : Nat} {w : World} {base base' : Nat} {v : Value} {l : List Fn} (h : OwnFns e f w base v l) (hb : base' ≤ base) : OwnFns e f w base' v l := by
  obtain ⟨t, h1, h2, h3⟩ := h
  exact ⟨t, h1, owns_base h2 hb, fun i hi => ⟨(h3 i hi).1, (h3 i hi).2.1, (h3 i hi).2.2.1, owns_base (h3 i hi).2.2.2 hb⟩⟩

/-- A text is a program's bytes. -/
def isPut (s : ByteArray) (l : List Fn) : Prop := packsB l = true ∧ strOfNums (putBytes l) = s
theorem isPut_one {s : ByteArray} {l l' : List Fn} (h : isPut s l) (h' : isPut s l') : l = l' := by
  have e := back_put h.1 h.2
  rw [back_put h'.1 h'.2] at e
  simp at e
  exact e.symm
theorem packs_len {l : List Fn} (h : packsB l = true) : 1 ≤ l.length ∧ l.length ≤ 8 := by simp [packsB] at h; omega

theorem refGet_spec (s : ByteArray) (w : World) (hs : s.size ≤ 140737488351232) :
    Calls Tryd.prog 12 #[.string s] w fun e w' => ∃ v err, e = .returned (.tuple #[.agg #[v], .int .i64 err]) ∧ Below w.heap.size w w' ∧
      ((∃ l, isPut s l ∧ err = 0 ∧ OwnFns 43 46 w' w.heap.size v l) ∨ ((∀ l, ¬ isPut s l) ∧ err = 300 ∧ v = .slice none 0 0)) := by
  refine (refGet_any s w hs).mono ?_
  rintro e w' ⟨v, err, rfl, hb, h | h⟩
  · exact ⟨v, err, rfl, hb, .inl ⟨_, ⟨h.2.1, h.2.2.1⟩, h.2.2.2.1, h.2.2.2.2.1.base (by omega)⟩⟩
  · refine ⟨v, err, rfl, hb, .inr ⟨fun l hl => h.1 ?_, h.2⟩⟩
    have e : getSt s = (l, s.size, false) := back_put hl.1 hl.2
    rw [e]
    exact ⟨rfl, hl.1, hl.2⟩

/-- A program of one function, written out. -/
theorem own_lit1 (e f : Nat) (w : World) (x y : Int) (code : List (Int × Int)) (cs : List Value) (n : Nat) (hcs : flat2 code = cs) (hn : code.length = n) (hl : n ≤ 1000) :
    OwnFns e f ((w.alloc (.cells cs.toArray e)).alloc (.cells #[.int .i64 x, .int .i64 y, .slice (some ⟨w.heap.size, 0, none⟩) n n] f)) w.heap.size (.slice (some ⟨w.heap.size + 1, 0, none⟩) 1 1) [(x, y, code)] := by
  subst hcs
  subst hn
  have h1 := World.ownsRow_lit (base := w.heap.size) (e := e) (size := 2) w (flat2 code).toArray code.length (Nat.le_refl _) (by unfold maxLen; omega) (by simp [flat2_len])
  have h2 := World.ownsRow_lit (base := w.heap.size) (e := f) (size := 3) (w.alloc (.cells (flat2 code).toArray e)) #[.int .i64 x, .int .i64 y, .slice (some ⟨w.heap.size, 0, none⟩) code.length code.length] 1 (by simp) (by unfold maxLen; omega) rfl
  rw [show (w.alloc (.cells (flat2 code).toArray e)).heap.size = w.heap.size + 1 by simp] at h2
  refine ⟨[(x, y, .slice (some ⟨w.heap.size, 0, none⟩) code.length code.length)], rfl, h2, fun i hi => ?_⟩
  have h0 : i = 0 := by simp at hi; exact hi
  subst h0
  exact ⟨rfl, rfl, by simp; omega, by simpa using h1.alloc _⟩
theorem fns_nil (w : World) : Fns w none 0 0 [] := ⟨rfl, Nat.le_refl _, by omega, fun _ => ⟨rfl, rfl⟩, fun h => absurd h (by omega)⟩

/-- What a Get left, in one form: a slice, its list, and which of the two it is. -/
def Got (s : ByteArray) (l : List Fn) (err : Int) : Prop := (isPut s l ∧ err = 0) ∨ ((∀ l', ¬ isPut s l') ∧ err = 300 ∧ l = [])
theorem got_of {e f : Nat} {s : ByteArray} {w : World} {base : Nat} {v : Value} {err : Int}
    (h : (∃ l, isPut s l ∧ err = 0 ∧ OwnFns e f w base v l) ∨ ((∀ l, ¬ isPut s l) ∧ err = 300 ∧ v = .slice none 0 0)) :
    ∃ l a n c, v = .slice a n c ∧ Fns w a n c l ∧ OwnFns e f w base (.slice a n c) l ∧ Got s l err := by
  rcases h with ⟨l, hp, he, ho⟩ | ⟨hn, he, rfl⟩
  · have hl := packs_len hp.1
    obtain ⟨a, n, c, rfl, hf⟩ := ho.reads (by omega)
    exact ⟨l, a, n, c, rfl, hf, ho, .inl ⟨hp, he⟩⟩
  · exact ⟨[], none, 0, 0, rfl, fns_nil w, OwnFns.nil _ _ _ _, .inr ⟨hn, he, rfl⟩⟩
theorem got_same {s : ByteArray} {l l' : List Fn} {e e' : Int} (h : Got s l e) (h' : Got s l' e') : l' = l ∧ e' = e := by
  rcases h with ⟨hp, he⟩ | ⟨hn, he, hl⟩
  · rcases h' with ⟨hp', he'⟩ | ⟨hn', _⟩
    · exact ⟨isPut_one hp' hp, by omega⟩
    · exact absurd hp (hn' l)
  · rcases h' with ⟨hp', he'⟩ | ⟨hn', he', hl'⟩
    · exact absurd hp' (hn l')
    · exact ⟨by rw [hl, hl'], by omega⟩

theorem sb_extract (a : ByteArray) (k : Nat) : sb (a.extract 0 k) = (sb a).take k := by
  unfold sb
  rw [← List.map_take]
  congr 1
  simp [ByteArray.extract, ByteArray.copySlice]
/-- No beginning of a program's bytes is a program's, but the whole. -/
theorem pref_put {l l' : List Fn} {a : ByteArray} {k : Nat} (h : isPut a l) (hk : k ≤ a.size) (h' : isPut (a.extract 0 k) l') : k = a.size := by
  have e1 : sb a = putBytes l := by rw [← h.2]; exact sb_str (putBytes_bd h.1)
  have e2 : (sb a).take k = putBytes l' := by rw [← sb_extract, ← h'.2]; exact sb_str (putBytes_bd h'.1)
  have e3 : sb a = putBytes l' ++ (sb a).drop k := by rw [← e2]; exact (List.take_append_drop k _).symm
  have hall : ∀ f ∈ l', fnB f = true := by
    have := h'.1
    unfold packsB at this
    simp only [Bool.and_eq_true, List.all_eq_true] at this
    exact this.2
  have h3 : (sb a).drop 3 = (l'.length : Int) :: (fnsBytes l' ++ (sb a).drop k) := by
    conv => lhs; rw [e3]
    rfl
  obtain ⟨v, a1, b1, d1⟩ := nv_drop (b := false) h3
  obtain ⟨g1, g2⟩ := fnSt_put hall d1 l'.length (Nat.le_refl _)
  have g3 := back_put h.1 h.2
  rw [v, a1, b1, show ((l'.length : Int)).toNat = l'.length by omega, g1, List.take_length] at g3
  simp only [Prod.mk.injEq] at g3
  have e4 := congrArg List.length e2
  rw [List.length_take, sb_len] at e4
  have e5 := congrArg List.length e1
  rw [sb_len, ← g3.1] at e5
  omega
theorem str_len (xs : List Int) : (strOfNums xs).size = xs.length := by
  show ((List.map (fun n => UInt8.ofNat n.toNat) xs).toArray).size = xs.length
  simp
theorem isPut_size {s : ByteArray} {l : List Fn} (h : isPut s l) : s.size ≤ 2588 := by
  rw [← h.2, str_len]
  have := fnsBytes_len h.1 l.length
  rw [List.take_length] at this
  simp [putBytes]
  omega
theorem putE_ok {l : List Fn} (h : packsB l = true) : putE l = 0 := by simp [putE, h]
theorem putE_no {l : List Fn} (h : packsB l = false) : putE l = 300 := by simp [putE, h]
theorem putS_ok {l : List Fn} (h : packsB l = true) : isPut (putS l) l := ⟨h, by simp [putS, h]⟩
theorem putS_no {l : List Fn} (h : packsB l = false) : putS l = ByteArray.empty := by simp [putS, h]
theorem putS_of {s : ByteArray} {l : List Fn} (h : isPut s l) : putS l = s := by simp [putS, h.1, h.2]
theorem ext_all (a : ByteArray) : a.extract 0 a.size = a := by
  apply ByteArray.ext
  simp [ByteArray.extract, ByteArray.copySlice]
theorem ext_len (a : ByteArray) (k : Nat) : (a.extract 0 k).size ≤ a.size := by
  have := congrArg List.length (sb_extract a k)
  rw [sb_len, List.length_take, sb_len] at this
  omega

end Go.Proofs.YtlknaanheieneaaDoor

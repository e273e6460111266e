/- What the document's own Put returns: the bytes of a program that may be packed, else an error. -/
import Derived.Test.YtlknaanheieneaaDoorRefPacks
import Derived.Test.YtlknaanheieneaaDoorCopy
import Derived.Laws.BytesArg
namespace Go.Proofs.YtlknaanheieneaaDoor
open Go.RowKit
set_option linter.unusedVariables false

set_option maxHeartbeats 400000 in
theorem refSmall_any (k : Int) (w : World) :
    Calls Tryd.prog 23 #[.int .i64 k] w fun e w' => e = .returned (.bool (smallB k)) ∧ w' = w := by
  by_cases h1 : k = 1
  · subst h1
    go_enter Tryd.func23, Tryd.ntmps23
    go_wp2
    go_ret
    exact ⟨rfl, rfl⟩
  by_cases h2 : k = 2
  · subst h2
    go_enter Tryd.func23, Tryd.ntmps23
    go_wp2
    go_ret
    exact ⟨rfl, rfl⟩
  by_cases h3 : k = 12
  · subst h3
    go_enter Tryd.func23, Tryd.ntmps23
    go_wp2
    go_ret
    exact ⟨rfl, rfl⟩
  by_cases h4 : k = 13
  · subst h4
    go_enter Tryd.func23, Tryd.ntmps23
    go_wp2
    go_ret
    exact ⟨rfl, rfl⟩
  have e1 : (k == 1) = false := by simp [h1]
  have e2 : (k == 2) = false := by simp [h2]
  have e3 : (k == 12) = false := by simp [h3]
  have e4 : (k == 13) = false := by simp [h4]
  have F : Hid (smallB k = (k == 14)) := by
    show smallB k = (k == 14)
    unfold smallB
    rw [Bool.eq_iff_iff]; simp [h1, h2, h3, h4]
  clear h1 h2 h3 h4
  go_enter Tryd.func23, Tryd.ntmps23
  go_wp2
  go_ret
  exact ⟨ret_bool F.out.symm, rfl⟩

theorem ret_si {s s' : ByteArray} {k : Int} (h : s = s') : Ending.returned (.tuple #[.string s, .int .i64 k]) = .returned (.tuple #[.string s', .int .i64 k]) := by rw [h]

theorem Tryd.infoByte : (Tryd.prog.info? 5).map (fun i => (i.zero, i.size, i.bytes)) = some (some (.int .u8 0), 1, 1) := by kernel_rfl

set_option maxHeartbeats 1000000 in
theorem refPut_bad (a : Option Addr) (n c : Nat) (l : List Fn) (w : World) (h : Fns w a n c l) (hp : packsB l = false) :
    Calls Tryd.prog 10 #[.agg #[.slice a n c]] w fun e w' => e = .returned (.tuple #[.string ByteArray.empty, .int .i64 300]) ∧ Below w.heap.size w w' := by
  go_enter Tryd.func10, Tryd.ntmps10
  go_wp2_with fail
  refine (refPacks_any _ _ _ l _ (h.kept (by go_grown))).mono ?_
  rintro e w1 ⟨rfl, b1⟩
  have B := hid b1
  clear b1
  go_wp2_with fail
  go_ret2
  exact ⟨rfl, kt (by go_grown) B.out⟩

set_option maxRecDepth 100000 in
set_option maxHeartbeats 4000000 in
theorem refPut_good (a : Option Addr) (n c : Nat) (l : List Fn) (w : World) (h : Fns w a n c l) (hp : packsB l = true) :
    Calls Tryd.prog 10 #[.agg #[.slice a n c]] w fun e w' => e = .returned (.tuple #[.string (strOfNums (putBytes l)), .int .i64 0]) ∧ Below w.heap.size w w' := by
  obtain ⟨i0, hi, hz0, hz1, hz2⟩ := info_parts Tryd.infoByte
  have L := hid h.len
  have hn : 1 ≤ n ∧ n ≤ 8 := by have := h.len; simp [packsB] at hp; omega
  obtain ⟨hn1, hn8⟩ := hn
  have hcap := h.cap
  go_enter Tryd.func10, Tryd.ntmps10
  go_wp2_with fail
  refine (refPacks_any _ _ _ l _ (h.kept (by go_grown))).mono ?_
  rintro e w1 ⟨rfl, b1⟩
  have g0 := kept_cell b1 (b := w.heap.size) (o := 0) (v := .slice a n c) (by simp [go_sem])
  have hb := kt (Below.alloc (Below.refl _ _) (Nat.le_refl _) _) b1
  have hs := hb.size
  have hs1 := lt_of_cell g0
  clear b1
  go_wp2_with fail
  have hown0 := World.ownsRow_lit (base := w.heap.size + 1) (e := 5) (size := 1) w1 #[.int .u8 84, .int .u8 105, .int .u8 107, .int .u8 n] 4 (by omega) (by simp [maxLen]) rfl
  go_loopw [4, 5] (fun v i wr => ∃ q : Nat, q ≤ n ∧ i = .int .i64 q ∧ wr.ownsRow (w.heap.size + 1) 5 1 v ([84, 105, 107, (n : Int)] ++ fnsBytes (l.take q)).length (nums ([84, 105, 107, (n : Int)] ++ fnsBytes (l.take q))) ∧ wr.cell? ⟨w.heap.size, 0, none⟩ = some (.slice a n c) ∧ Below w.heap.size w wr) (fun _ i _ => n - (intOf i).toNat)
  case atStart => exact ⟨0, Nat.zero_le _, rfl, by simpa [fnsBytes, nums] using hown0, kept_cell (by go_grown) g0, kt hb (by go_grown)⟩
  case round =>
    obtain ⟨wo, hwo⟩ : ∃ wo : World, wo = wr := ⟨wr, rfl⟩
    subst hwo
    obtain ⟨q, hq, rfl, ho, g0, hb⟩ := hrel
    have hlq := fnsBytes_len hp q
    generalize hxs : [84, 105, 107, (n : Int)] ++ fnsBytes (l.take q) = xs at ho
    have hxl : xs.length ≤ 2588 := by rw [← hxs]; simp; omega
    have XS := hid hxs
    clear hxs hown0 hlq
    by_cases hlt : q < n
    · obtain ⟨b1, o1, x1, y1, a1, n1, m1, l1, rfl, e1, k1, k2, k3, i1⟩ := h.at q hlt
      replace k1 := kept_cell hb k1
      replace k2 := kept_cell hb k2
      replace k3 := kept_cell hb k3
      have hf : fnB (x1, y1, l1) = true := fnB_of hp (by have := L.out; omega) e1
      have hbd := fnB_bd hf
      have L1 := hid i1.len
      obtain ⟨x0, x4, xy, y8, c1', c64⟩ := hbd
      have hn1' : 1 ≤ n1 := by have := L1.out; omega
      have hn64 : n1 ≤ 64 := by have := L1.out; omega
      have E1 := hid e1
      clear e1
      have hs := hb.size
      have hs2 := lt_of_cell g0
      have z1 := World.new_ne _ _ k1
      have HF := hid hf
      have HO := hid ho
      clear hf ho c1' c64
      go_wp2_with (at_builtin; go_must ((refine wpList_append_lies _ rfl _ _ 58 rfl (w.heap.size + 1) 5 i0 (.int .u8 0) 1 1 Tryd.underlying58 hi hz0 hz1 hz2 rfl (by decide) _ _ _ rfl ((HO.out.alloc _).alloc _) ⟨wo.heap.size + 1, 0, none⟩ 3 3 [.int .u8 x1, .int .u8 y1, .int .u8 n1] rfl rfl (news_new (by simp) _ _) (nums_one [x1, y1, (n1 : Int)]) (by decide) (by unfold maxLen; omega) (by omega) (by simp; omega) (wo.heap.size + 2) (by simp) ?_; intro g6 cap6 w6 ho6 hg6 hat6 hlt6)))
      have OL := hid HO.out.lt
      have g6 := app_cell hg6 OL.out (kept_cell (by go_grown) g0) (.inl (by omega))
      have f6 : w6.cell? ⟨wo.heap.size, 2, none⟩ = some (.slice a1 n1 m1) := app_cell hg6 OL.out (by simp [go_sem]) (.inr (Nat.le_refl _))
      have hb6 : Below w.heap.size w w6 := app_below (by go_grown) hg6 OL.out (by omega) (by simp; omega)
      have ho6' := nums_grow (ys := [x1, y1, (n1 : Int)]) ho6 rfl rfl
      generalize hys : xs ++ [x1, y1, (n1 : Int)] = ys at ho6'
      have hyl : ys.length ≤ 2591 := by rw [← hys]; simp; omega
      have YS := hid hys
      have hfb : w.heap.size < wo.heap.size := by omega
      have hv6 := lies_ne2 (n := xs.length + 3) (cap := cap6) (f := wo.heap.size) hat6 (fun e => by have := OL.out _ e; omega) (by omega)
      clear ho6 hg6 hys hat6
      go_loopw [4, 7] (fun v j wi => ∃ k : Nat, k ≤ n1 ∧ j = .int .i64 k ∧ wi.ownsRow (w.heap.size + 1) 5 1 v (ys ++ codeBytes (l1.take k)).length (nums (ys ++ codeBytes (l1.take k))) ∧ wi.cell? ⟨w.heap.size, 0, none⟩ = some (.slice (some ⟨b1, o1, none⟩) n c) ∧ wi.cell? ⟨wo.heap.size, 2, none⟩ = some (.slice a1 n1 m1) ∧ v.ownBlock ≠ some wo.heap.size ∧ Below w.heap.size w wi) (fun _ j _ => n1 - (intOf j).toNat)
      case atStart => exact ⟨0, Nat.zero_le _, rfl, by simpa [codeBytes] using ho6', g6, f6, hv6, hb6⟩
      case round =>
        obtain ⟨k, hk, rfl, hoi, gi, fi, hvi, hbi⟩ := hrel
        have HV := hid hvi
        clear hvi
        have hcl := codeBytes_len (l1.take k)
        have hcl2 : (l1.take k).length ≤ 64 := by rw [List.length_take]; have := L1.out; omega
        generalize hzs : ys ++ codeBytes (l1.take k) = zs at hoi
        have hzl : zs.length ≤ 2911 := by rw [← hzs]; simp; omega
        have ZS := hid hzs
        have OI := hid hoi
        have OLi := hid hoi.lt
        have hsf := lt_of_cell fi
        clear hzs hoi hcl hcl2
        by_cases hlk : k < n1
        · obtain ⟨b2, o2, p, r, rfl, e2, d1, d2⟩ := i1.at k hlk
          have hm : mayB p r = true := mayB_of HF.out (by have := L1.out; omega) e2
          have hkd := may_kind hm
          obtain ⟨hk0, hk16⟩ := hkd
          replace d1 := kept_cell hbi d1
          replace d2 := kept_cell hbi d2
          have E2 := hid e2
          have HM := hid hm
          clear e2 hm
          have hsb := hbi.size
          have z2 := World.new_ne _ _ d1
          by_cases hp0 : p = 0
          · subst hp0
            have hsm : smallB 0 = false := rfl
            go_wp2_with (first | (at_builtin; refine wpList_append_lies _ rfl (.tmp 55) (.tmp 59) 58 rfl (w.heap.size + 1) 5 i0 (.int .u8 0) 1 1 Tryd.underlying58 hi hz0 hz1 hz2 rfl (by decide) _ _ _ rfl ((OI.out.alloc _).alloc _) ⟨wr.heap.size + 1, 0, none⟩ 1 1 [.int .u8 0] rfl rfl (news_new (by simp) _ _) (nums_one [0]) (by decide) (by unfold maxLen; omega) (by omega) (by simp; omega) (wr.heap.size + 2) (by simp) ?_; intro g cap w6 ho6 hg6 hat hlt6; have q1 := app_cell hg6 OLi.out (b := wr.heap.size) (o := 0) (u := .int .i64 0) (by simp [go_sem]) (.inr (Nat.le_refl _)); have q2 := app_cell hg6 OLi.out (b := wr.heap.size) (o := 1) (u := .int .i64 r) (by simp [go_sem]) (.inr (Nat.le_refl _)); have hz6 : wr.heap.size + 2 ≤ w6.heap.size := (by have := hg6.size; simpa using this); have P := hid (And.intro ho6 (And.intro hg6 (And.intro hat hlt6))); clear ho6 hg6 hat hlt6) | (at_builtin; go_must ((refine wpList_append_lies _ rfl (.tmp 68) (.tmp 80) 58 rfl (w.heap.size + 1) 5 i0 (.int .u8 0) 1 1 Tryd.underlying58 hi hz0 hz1 hz2 rfl (by decide) _ _ _ rfl (P.out.1.alloc _) _ 4 4 [.int .u8 (IntKind.u64.wrap r % 256), .int .u8 (IntKind.u64.wrap r % 4294967296 / 256 % 256), .int .u8 (IntKind.u64.wrap r % 4294967296 / 65536 % 256), .int .u8 (IntKind.u64.wrap r % 4294967296 / 16777216)] rfl rfl (news_new rfl _ _) (nums_one [IntKind.u64.wrap r % 256, IntKind.u64.wrap r % 4294967296 / 256 % 256, IntKind.u64.wrap r % 4294967296 / 65536 % 256, IntKind.u64.wrap r % 4294967296 / 16777216]) (by decide) (by unfold maxLen; omega) (by omega) (by simp; omega) _ rfl ?_; intro g2 cap2 w8 ho8 hg8 hat8 hlt8; have q3 := app_cell2 hg8 (kept_cell (by go_grown) q1) (lies_ne (b := wr.heap.size) P.out.2.2.1 OLi.out (.inr (Nat.le_refl _)) (by omega) (by omega)).1; have R := hid (And.intro ho8 (And.intro hg8 (And.intro hat8 hlt8))); clear ho8 hg8 hat8 hlt8))) | (go_at_call 23; refine (refSmall_any _ _).mono ?_; rintro e w' ⟨rfl, rfl⟩))
            go_roundw
            case rel =>
              obtain ⟨p1, p2, p3, p4⟩ := P.out
              obtain ⟨r1, r2, r3, r4⟩ := R.out
              have gne := lies_ne (b := w.heap.size) p3 OLi.out (.inl (by omega)) (by omega) (by omega)
              have v6ne := lies_ne2 (n := zs.length + 1) (cap := cap) p3 HV.out (by omega)
              have hb6 : Below w.heap.size w _ := app_below (by go_grown) p2 OLi.out (by omega) (by simp; omega)
              refine ⟨k + 1, by omega, by go_num, put_row ZS.out (by have := L1.out; omega) E2.out ?_, app_cell2 r2 (kept_cell (by go_grown) (app_cell p2 OLi.out (kept_cell (by go_grown) gi) (.inl (by omega)))) gne.1, r2.cell (kept_cell (by go_grown) (p2.cell (kept_cell (by go_grown) fi) (Ne.symm HV.out))) (Ne.symm v6ne), lies_ne2 r3 v6ne (by simp; omega), Below.grown (Below.alloc hb6 (by omega) _) r2 (by simp; omega) (fun k hk => by cases hk; exact Nat.le_of_succ_le gne.2)⟩
              rw [u64_c0, u64_c1, u64_c2, u64_c3] at r1
              rw [insBytes0, ← List.append_assoc]
              exact nums_grow (xs := zs ++ [0]) (ys := [c0 r, c1 r, c2 r, c3 r]) (by simpa [nums] using r1) rfl rfl
            case measure => simp [intOf]; omega
          · have hp0' : (p == 0) = false := by simp [hp0]
            cases hsm : smallB p
            · go_wp2_with (first | (at_builtin; refine wpList_append_lies _ rfl (.tmp 55) (.tmp 59) 58 rfl (w.heap.size + 1) 5 i0 (.int .u8 0) 1 1 Tryd.underlying58 hi hz0 hz1 hz2 rfl (by decide) _ _ _ rfl ((OI.out.alloc _).alloc _) ⟨wr.heap.size + 1, 0, none⟩ 1 1 [.int .u8 p] rfl rfl (news_new (by simp) _ _) (nums_one [p]) (by decide) (by unfold maxLen; omega) (by omega) (by simp; omega) (wr.heap.size + 2) (by simp) ?_; intro g cap w6 ho6 hg6 hat hlt6; have q1 := app_cell hg6 OLi.out (b := wr.heap.size) (o := 0) (u := .int .i64 p) (by simp [go_sem]) (.inr (Nat.le_refl _)); have q2 := app_cell hg6 OLi.out (b := wr.heap.size) (o := 1) (u := .int .i64 r) (by simp [go_sem]) (.inr (Nat.le_refl _)); have hz6 : wr.heap.size + 2 ≤ w6.heap.size := (by have := hg6.size; simpa using this); have P := hid (And.intro ho6 (And.intro hg6 (And.intro hat hlt6))); clear ho6 hg6 hat hlt6) | (go_at_call 23; refine (refSmall_any _ _).mono ?_; rintro e w' ⟨rfl, rfl⟩))
              go_roundw
              case rel =>
                obtain ⟨p1, p2, p3, p4⟩ := P.out
                exact ⟨k + 1, by omega, by go_num, put_row ZS.out (by have := L1.out; omega) E2.out (by rw [insBytes_else hp0 hsm]; exact nums_grow (ys := [p]) p1 rfl rfl), app_cell p2 OLi.out (kept_cell (by go_grown) gi) (.inl (by omega)), p2.cell (kept_cell (by go_grown) fi) (Ne.symm HV.out), lies_ne2 p3 HV.out (by omega), app_below (by go_grown) p2 OLi.out (by omega) (by simp; omega)⟩
              case measure => simp [intOf]; omega
            · obtain ⟨r0, r63⟩ := small_bd HM.out hsm
              go_wp2_with (first | (at_builtin; refine wpList_append_lies _ rfl (.tmp 55) (.tmp 59) 58 rfl (w.heap.size + 1) 5 i0 (.int .u8 0) 1 1 Tryd.underlying58 hi hz0 hz1 hz2 rfl (by decide) _ _ _ rfl ((OI.out.alloc _).alloc _) ⟨wr.heap.size + 1, 0, none⟩ 1 1 [.int .u8 p] rfl rfl (news_new (by simp) _ _) (nums_one [p]) (by decide) (by unfold maxLen; omega) (by omega) (by simp; omega) (wr.heap.size + 2) (by simp) ?_; intro g cap w6 ho6 hg6 hat hlt6; have q1 := app_cell hg6 OLi.out (b := wr.heap.size) (o := 0) (u := .int .i64 p) (by simp [go_sem]) (.inr (Nat.le_refl _)); have q2 := app_cell hg6 OLi.out (b := wr.heap.size) (o := 1) (u := .int .i64 r) (by simp [go_sem]) (.inr (Nat.le_refl _)); have hz6 : wr.heap.size + 2 ≤ w6.heap.size := (by have := hg6.size; simpa using this); have P := hid (And.intro ho6 (And.intro hg6 (And.intro hat hlt6))); clear ho6 hg6 hat hlt6) | (at_builtin; refine wpList_append_lies _ rfl (.tmp 85) (.tmp 89) 58 rfl (w.heap.size + 1) 5 i0 (.int .u8 0) 1 1 Tryd.underlying58 hi hz0 hz1 hz2 rfl (by decide) _ _ _ rfl (P.out.1.alloc _) _ 1 1 [.int .u8 r] rfl rfl (news_new rfl _ _) (nums_one [r]) (by decide) (by unfold maxLen; omega) (by omega) (by simp; omega) _ rfl ?_; intro g2 cap2 w8 ho8 hg8 hat8 hlt8; have R := hid (And.intro ho8 (And.intro hg8 (And.intro hat8 hlt8))); clear ho8 hg8 hat8 hlt8) | (go_at_call 23; refine (refSmall_any _ _).mono ?_; rintro e w' ⟨rfl, rfl⟩))
              go_roundw
              case rel =>
                obtain ⟨p1, p2, p3, p4⟩ := P.out
                obtain ⟨r1, r2, r3, r4⟩ := R.out
                have gne := lies_ne (b := w.heap.size) p3 OLi.out (.inl (by omega)) (by omega) (by omega)
                have v6ne := lies_ne2 (n := zs.length + 1) (cap := cap) p3 HV.out (by omega)
                have hb6 : Below w.heap.size w _ := app_below (by go_grown) p2 OLi.out (by omega) (by simp; omega)
                refine ⟨k + 1, by omega, by go_num, put_row ZS.out (by have := L1.out; omega) E2.out ?_, app_cell2 r2 (kept_cell (by go_grown) (app_cell p2 OLi.out (kept_cell (by go_grown) gi) (.inl (by omega)))) gne.1, r2.cell (kept_cell (by go_grown) (p2.cell (kept_cell (by go_grown) fi) (Ne.symm HV.out))) (Ne.symm v6ne), lies_ne2 r3 v6ne (by simp; omega), Below.grown (Below.alloc hb6 (by omega) _) r2 (by simp; omega) (fun k hk => by cases hk; exact Nat.le_of_succ_le gne.2)⟩
                rw [insBytes_small hp0 hsm, ← List.append_assoc]
                exact nums_grow (xs := zs ++ [p]) (ys := [r]) (by simpa [nums] using r1) rfl rfl
              case measure => simp [intOf]; omega
        · have hkn : k = n1 := by omega
          clear h i1
          go_wp2
          go_roundw
          case rel =>
            have hrow : zs = [84, 105, 107, (n : Int)] ++ fnsBytes (l.take (q + 1)) := by
              rw [take_snoc_getD (by have := L.out; omega) E1.out, fnsBytes_snoc, ← List.append_assoc, XS.out, ← ZS.out, ← YS.out, List.take_of_length_le (by have := L1.out; omega)]
              simp [fnBytes, L1.out]
            exact ⟨q + 1, by omega, by go_num, hrow ▸ OI.out, gi, hbi⟩
          case measure => simp [intOf]; omega
    · have hpos : 0 < xs.length := by rw [← XS.out]; simp
      obtain ⟨g, cap, rfl, _⟩ := ho.form hpos
      have hrun := run_convert_bytes_arg (P := Tryd.prog) wo 58 5 Tryd.underlying58 Tryd.underlying5 g 0 xs.length cap xs rfl (nums_cell ho) 9 Tryd.underlying9
      clear h
      go_wp2
      go_ret2
      have hx : strOfNums xs = strOfNums (putBytes l) := by
        rw [← XS.out, List.take_of_length_le (by have := L.out; omega), putBytes, ← L.out]
      exact ⟨ret_si hx, hb⟩

def putS (l : List Fn) : ByteArray := if packsB l = true then strOfNums (putBytes l) else ByteArray.empty
def putE (l : List Fn) : Int := if packsB l = true then 0 else 300
theorem refPut_any (a : Option Addr) (n c : Nat) (l : List Fn) (w : World) (h : Fns w a n c l) :
    Calls Tryd.prog 10 #[.agg #[.slice a n c]] w fun e w' => e = .returned (.tuple #[.string (putS l), .int .i64 (putE l)]) ∧ Below w.heap.size w w' := by
  cases hp : packsB l
  · have := refPut_bad a n c l w h hp
    simpa [putS, putE, hp] using this
  · have := refPut_good a n c l w h hp
    simpa [putS, putE, hp] using this

end Go.Proofs.YtlknaanheieneaaDoor

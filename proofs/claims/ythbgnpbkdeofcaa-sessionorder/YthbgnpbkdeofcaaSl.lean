/-
  Same.
-/
import Derived.Test.YthbgnpbkdeofcaaSk
import Derived.BigQuiet
namespace Go.Proofs.Ythbgnpbkdeofcaa
set_option maxRecDepth 100000
open Go.RowKit

theorem guard66 : Try.prog.eqGuardType Try.prog.depth 66 = false := by kernel_rfl
theorem fields66 : (Try.prog.fieldsOf 66).toList.map (fun f => (decide (f.name ≠ "_"), f.type, f.offset)) = [(true, 3, 0), (true, 3, 1), (true, 2, 2), (true, 2, 3), (true, 2, 4), (true, 2, 5), (true, 4, 6)] := by kernel_rfl
theorem str66 : Try.prog.underlying 66 = some (.struct (Try.prog.fieldsOf 66)) := by kernel_rfl
theorem part4 (W : World) (vs : Array Value) (o : Nat) (v : Value) (h : vs[o]? = some v) : (part 4 vs o).run Try.prog W = .ok v W := by simp [part, isAgg, run_underlying Try.underlying4, h]
theorem eq4 (W : World) (d : Nat) (x y : Bool) : (Op.equalIn (d + 1) 4 (.bool x) (.bool y)).run Try.prog W = .ok (decide (x = y)) W := by
  simp [Op.equalIn, Sem.run_bind, run_underlying Try.underlying4]
  cases x <;> cases y <;> rfl
/-- Are two sessions' states the same? -/
def stEq (P R : Ps) : Bool := decide (P.me = R.me) && (decide (P.oth = R.oth) && (decide (P.view = R.view) && (decide ((P.known : Int) = R.known) && (decide ((P.told : Int) = R.told) && (decide (P.got = R.got) && decide (P.owes = R.owes))))))
theorem equal66 (W : World) (P R : Ps) : (Op.equal 66 (aggV P.S) (aggV R.S)).run Try.prog W = .ok (stEq P R) W := by
  have hh := run_equalIn_struct (P := Try.prog) W 9999 66 P.S.toArray R.S.toArray str66 (by kernel_rfl)
  refine hh.trans ?_
  generalize hf : (Try.prog.fieldsOf 66).toList = fs
  have hm := fields66
  rw [hf] at hm
  match fs, hm with
  | [f0, f1, f2, f3, f4, f5, f6], hm =>
    simp only [List.map_cons, List.map_nil, List.cons.injEq, Prod.mk.injEq, and_true, decide_eq_true_eq] at hm
    obtain ⟨⟨a0, b0, c0⟩, ⟨a1, b1, c1⟩, ⟨a2, b2, c2⟩, ⟨a3, b3, c3⟩, ⟨a4, b4, c4⟩, ⟨a5, b5, c5⟩, a6, b6, c6⟩ := hm
    have hh := fields_step W 9999 3 0 _ _ f0 _ _ _ _ _ a0 b0 c0 (part3 W P.S.toArray 0 _ rfl) (part3 W R.S.toArray 0 _ rfl) (eq3 W 9998 P.me R.me) (fields_step W 9999 3 1 _ _ f1 _ _ _ _ _ a1 b1 c1 (part3 W P.S.toArray 1 _ rfl) (part3 W R.S.toArray 1 _ rfl) (eq3 W 9998 P.oth R.oth) (fields_step W 9999 2 2 _ _ f2 _ _ _ _ _ a2 b2 c2 (part2 W P.S.toArray 2 _ rfl) (part2 W R.S.toArray 2 _ rfl) (eq2 W 9998 P.view R.view) (fields_step W 9999 2 3 _ _ f3 _ _ _ _ _ a3 b3 c3 (part2 W P.S.toArray 3 _ rfl) (part2 W R.S.toArray 3 _ rfl) (eq2 W 9998 P.known R.known) (fields_step W 9999 2 4 _ _ f4 _ _ _ _ _ a4 b4 c4 (part2 W P.S.toArray 4 _ rfl) (part2 W R.S.toArray 4 _ rfl) (eq2 W 9998 P.told R.told) (fields_step W 9999 2 5 _ _ f5 _ _ _ _ _ a5 b5 c5 (part2 W P.S.toArray 5 _ rfl) (part2 W R.S.toArray 5 _ rfl) (eq2 W 9998 P.got R.got) (fields_step W 9999 4 6 _ _ f6 [] _ _ _ _ a6 b6 c6 (part4 W P.S.toArray 6 _ rfl) (part4 W R.S.toArray 6 _ rfl) (eq4 W 9998 P.owes R.owes) (fields_nil ..)))))))
    rw [Bool.and_true] at hh
    exact hh
/-- Bodies in a row, as bytes. -/
structure Bods (W : World) (v : Value) (ws : List Value) (L : List (List Int)) : Prop where
  row : OwnO W v ws
  len : ws.length = L.length
  body : ∀ (i : Nat) u bs, ws[i]? = some u → L[i]? = some bs → Bod W u bs
theorem Bods.kept0 {W W' : World} {v : Value} {ws : List Value} {L : List (List Int)} (h : Bods W v ws L) (hk : Kept [] W W') : Bods W' v ws L := ⟨h.row.kept hk (by simp), h.len, fun i u bs hu hs => (h.body i u bs hu hs).kept hk (by simp)⟩
theorem Sx.bods {W : World} {b : Nat} {v : Value} {ws : List Value} {P : Ps} (h : Sx W b v ws P) : Bods W v ws (P.sent.drop P.known) := by
  have hl := h.len
  refine ⟨h.row, by rw [List.length_drop]; omega, fun i u bs hu hs => h.body i u bs hu ?_⟩
  rw [← hs, List.getElem?_drop]
theorem eqfun41 (v v2 : Value) (ws ws2 : List Value) (L M : List (List Int)) (w : World) (h : Bods w v ws L) (h2 : Bods w v2 ws2 M) (hm : L.length ≤ 1000) : Calls Try.prog 41 #[v, v2, .func (.func 42) #[] #[]] w fun e w' => e = .returned (.bool (decide (L = M))) ∧ Kept [] w w' := by
  obtain ⟨ao, c, rfl, _, _⟩ := h.row.sl
  obtain ⟨ao2, c2, rfl, _, _⟩ := h2.row.sl
  have h1 := h.len
  have h3 := h2.len
  by_cases hl : L.length = M.length
  · obtain ⟨n, hn⟩ : ∃ n, n = ws.length := ⟨_, rfl⟩
    have hn2 : ws2.length = n := by omega
    have HW : Hid (ws.length = n) := hn.symm
    have HB := hide h
    have HC := hide h2
    have HL : Hid (L.length = n ∧ M.length = n) := ⟨by omega, by omega⟩
    rw [← hn, hn2]
    have hn1 : n ≤ 1000 := by omega
    have HK := hide (Kept.refl [] w)
    clear h h2 h1 h3 hl hn hn2 hm
    go_enter Try.func41, Try.ntmps41
    go_wp2_with fail
    go_loopw [17] (fun i wr => ∃ j : Nat, j ≤ n ∧ i = .int .i64 j ∧ Hid (L.take j = M.take j) ∧ Hid (Kept [] w wr)) (fun i _ => n - (intOf i).toNat)
    case atStart => exact ⟨0, by omega, rfl, rfl, HK⟩
    case round =>
      clear HK
      obtain ⟨j, hj, rfl, HE, HK⟩ := hrel
      replace HB := hide ((unhide HB).kept0 (unhide HK))
      replace HC := hide ((unhide HC).kept0 (unhide HK))
      by_cases hlt : j < n
      · have hln := unhide HL
        have hw := unhide HW
        have hw2 := (unhide HC).len
        obtain ⟨u, hu⟩ : ∃ u, ws[j]? = some u := ⟨_, List.getElem?_eq_getElem (by omega)⟩
        obtain ⟨u2, hu2⟩ : ∃ u, ws2[j]? = some u := ⟨_, List.getElem?_eq_getElem (by omega)⟩
        obtain ⟨bs, hbs⟩ : ∃ u, L[j]? = some u := ⟨_, List.getElem?_eq_getElem (by omega)⟩
        obtain ⟨bs2, hbs2⟩ : ∃ u, M[j]? = some u := ⟨_, List.getElem?_eq_getElem (by omega)⟩
        have hB := (unhide HB).body j u bs hu hbs
        have hB2 := (unhide HC).body j u2 bs2 hu2 hbs2
        have P42 := hide (equal42 u u2 bs bs2 wr hB.row hB2.row hB.byte hB2.byte)
        obtain ⟨uo, uc, rfl, _, _⟩ := hB.sl
        obtain ⟨uo2, uc2, rfl, _, _⟩ := hB2.sl
        rcases (unhide HB).row with ⟨_, x1⟩ | ⟨g, off, cap, cur, x1, hcur, _, _, _, hcell⟩
        · exfalso; rw [x1] at hw; simp at hw; omega
        rcases (unhide HC).row with ⟨_, y1⟩ | ⟨g2, off2, cap2, cur2, y1, hcur2, _, _, _, hcell2⟩
        · exfalso; rw [y1] at hw2; simp at hw2; omega
        have hc9 : wr.cell? ⟨g, off + j, none⟩ = some (.slice uo bs.length uc) := by rw [cell_of_block hcur]; exact hcell j _ hu
        have hd9 : wr.cell? ⟨g2, off2 + j, none⟩ = some (.slice uo2 bs2.length uc2) := by rw [cell_of_block hcur2]; exact hcell2 j _ hu2
        injection x1 with x1 x2 x3
        injection y1 with y1 y2 y3
        subst x1 y1
        have hltI : (j : Int) < (n : Int) := by omega
        have HT : Hid (L.take (j + 1) = L.take j ++ [bs] ∧ M.take (j + 1) = M.take j ++ [bs2]) := ⟨by rw [List.take_add_one, hbs]; rfl, by rw [List.take_add_one, hbs2]; rfl⟩
        have HBS : Hid (L[j]? = some bs ∧ M[j]? = some bs2) := ⟨hbs, hbs2⟩
        clear hln hw hw2 hu hu2 hbs hbs2 hB hB2 hcur hcell hcur2 hcell2 x2 x3 y2 y3
        by_cases he : bs = bs2
        · subst he
          rw [decide_eq_true rfl] at P42
          go_wp2_with (
            first
            | (go_at_call 42
               refine (unhide P42).mono ?_
               rintro e W3 ⟨rfl, rfl⟩))
          go_roundw
          case rel => exact ⟨j + 1, by omega, by go_num, by rw [(unhide HT).1, (unhide HT).2, unhide HE]; exact hide rfl, HK⟩
          case measure => simp [intOf]; omega
        · rw [decide_eq_false he] at P42
          have HNE : Hid (decide (L = M) = false) := by
            have : decide (L = M) = false := by
              simp only [decide_eq_false_iff_not]
              intro e
              have h9 := unhide HBS
              rw [e, h9.2] at h9
              exact he (Option.some.inj h9.1).symm
            exact this
          go_wp2_with (
            first
            | (go_at_call 42
               refine (unhide P42).mono ?_
               rintro e W3 ⟨rfl, rfl⟩))
          go_ret
          exact ⟨by rw [unhide HNE]; rfl, unhide HK⟩
      · have HEQ : Hid (decide (L = M) = true) := by
          have h9 := unhide HE
          have h8 := unhide HL
          rw [List.take_of_length_le (by omega), List.take_of_length_le (by omega)] at h9
          have : decide (L = M) = true := by simpa using h9
          exact this
        go_wp2_with fail
        go_ret
        exact ⟨by rw [unhide HEQ]; rfl, unhide HK⟩
  · have hne : ¬ (ws.length : Int) = (ws2.length : Int) := by omega
    have HNE : Hid (decide (L = M) = false) := by
      have : decide (L = M) = false := by
        simp only [decide_eq_false_iff_not]
        intro e
        exact hl (by rw [e])
      exact this
    have hnb : (ws.length == ws2.length) = false := by simp; omega
    have hnn : ¬ ws.length = ws2.length := by omega
    clear h h2 h1 h3 hl hm
    go_enter Try.func41, Try.ntmps41
    go_wp2_with fail
    go_ret
    exact ⟨by rw [unhide HNE]; rfl, Kept.refl _ _⟩
def sameB (P R : Ps) : Bool := stEq P R && decide (P.sent.drop P.known = R.sent.drop R.known)
set_option maxHeartbeats 2000000 in
theorem same_t (b b2 : Nat) (v v2 : Value) (ws ws2 : List Value) (P R : Ps) (w : World) (h : Sx w b v ws P) (h2 : Sx w b2 v2 ws2 R) (hst : stEq P R = true) : Calls Try.prog 28 #[P0 b, P0 b2] w fun e w' => e = .returned (.bool (sameB P R)) ∧ Kept [] w w' := by
  obtain ⟨eqb, heq⟩ : ∃ eqb, eqb = decide (P.sent.drop P.known = R.sent.drop R.known) := ⟨_, rfl⟩
  have HEQ : Hid (decide (P.sent.drop P.known = R.sent.drop R.known) = eqb) := heq.symm
  have HST := hide hst
  have HL : Hid ((P.sent.drop P.known).length ≤ 1000) := by have h9 := h.ok.many; have : (P.sent.drop P.known).length ≤ 1000 := by rw [List.length_drop]; omega
                                                            exact this
  have PA := hide (fun W (hk : Kept [] w W) => none33 b v ws P W (h.kept0 hk))
  have PB := hide (fun W (hk : Kept [] w W) => none33 b2 v2 ws2 R W (h2.kept0 hk))
  have HS1 := hide h
  have HS2 := hide h2
  have HK := hide (Kept.refl [] w)
  have HA : Hid (sameB P R = eqb) := by unfold sameB; rw [hst, ← heq]; rfl
  clear h h2 hst heq
  go_enter Try.func28, Try.ntmps28
  go_wp2_with (
    first
    | (go_at_call 33
       refine (unhide PA _ (unhide HK)).mono ?_
       rintro e w1 ⟨rfl, q1, hq⟩
       replace HK : Hid (Kept [] w w1) := (unhide HK).trans (by rw [hq]; exact kept_drewN _ _ _)
       clear hq PA)
    | (go_at_call 33
       refine (unhide PB _ (unhide HK)).mono ?_
       rintro e V2 ⟨rfl, q2, hq⟩
       replace HK : Hid (Kept [] w V2) := (unhide HK).trans (by rw [hq]; exact kept_drewN _ _ _)
       clear hq PB))
  replace HS1 := hide ((unhide HS1).kept0 (unhide HK))
  replace HS2 := hide ((unhide HS2).kept0 (unhide HK))
  have H1 := hide (unhide HS1).head
  have H2 := hide (unhide HS2).head
  refine wp_region_any mixed (wpAny_tq 21 rfl (by kernel_rfl) [some (P0 b), some (P0 b), some (.pointer (some ⟨b, 0, none⟩)), some (aggV P.S), some (P0 b2), some (P0 b2), some (.pointer (some ⟨b2, 0, none⟩)), some (aggV R.S), some (.bool true), some (.bool true), some (P0 b), some (P0 b), some (.pointer (some ⟨b, 7, none⟩)), some (v), some (P0 b2), some (P0 b2), some (.pointer (some ⟨b2, 7, none⟩)), some (v2), some (.bool eqb), some (.bool eqb), some (.bool eqb)] rfl (by kernel_rfl) (by kernel_rfl) ?_ ?_)
  · intro i o' hi hsk ho a' w2 hout hin hk2
    replace hk2 : Kept [] V2 w2 := ⟨hk2.os, hk2.tape, hk2.output, hk2.size, hk2.block⟩
    match i, ho, hsk with
    | 0, ho, hsk =>
      obtain rfl := Option.some.inj ho
      exact wp_move (.tmp 0) rfl _ ((hout 0 (by kernel_rfl)).trans rfl) ⟨_, rfl, tq_is _ _ _ _ rfl, Kept.refl _ _, fun _ _ _ _ _ => trivial⟩
    | 1, ho, hsk =>
      obtain rfl := Option.some.inj ho
      have e0 : a'.eval (.tmp 17) = P0 b := is_tq (hin 0 17 (by kernel_rfl) (by kernel_rfl)) rfl
      exact o_nil (.tmp 17) rfl _ e0 ⟨_, rfl, tq_is _ _ _ _ rfl, Kept.refl _ _, fun _ _ _ _ _ => trivial⟩
    | 2, ho, hsk =>
      obtain rfl := Option.some.inj ho
      have e0 : a'.eval (.tmp 18) = P0 b := is_tq (hin 1 18 (by kernel_rfl) (by kernel_rfl)) rfl
      exact o_fld68_0 (.tmp 18) rfl b e0 ⟨_, rfl, tq_is _ _ _ _ rfl, Kept.refl _ _, fun _ _ _ _ _ => trivial⟩
    | 3, ho, hsk =>
      obtain rfl := Option.some.inj ho
      have e0 : a'.eval (.tmp 19) = .pointer (some ⟨b, 0, none⟩) := is_tq (hin 2 19 (by kernel_rfl) (by kernel_rfl)) rfl
      exact wp_loadA row66 (.tmp 19) rfl b 0 e0 P.S rfl (S_range ((unhide H1).kept hk2 (by simp))) ⟨_, rfl, tq_is _ _ _ _ rfl, Kept.refl _ _, fun _ _ _ _ _ => trivial⟩
    | 4, ho, hsk =>
      obtain rfl := Option.some.inj ho
      exact wp_move (.tmp 1) rfl _ ((hout 1 (by kernel_rfl)).trans rfl) ⟨_, rfl, tq_is _ _ _ _ rfl, Kept.refl _ _, fun _ _ _ _ _ => trivial⟩
    | 5, ho, hsk =>
      obtain rfl := Option.some.inj ho
      have e0 : a'.eval (.tmp 21) = P0 b2 := is_tq (hin 4 21 (by kernel_rfl) (by kernel_rfl)) rfl
      exact o_nil (.tmp 21) rfl _ e0 ⟨_, rfl, tq_is _ _ _ _ rfl, Kept.refl _ _, fun _ _ _ _ _ => trivial⟩
    | 6, ho, hsk =>
      obtain rfl := Option.some.inj ho
      have e0 : a'.eval (.tmp 22) = P0 b2 := is_tq (hin 5 22 (by kernel_rfl) (by kernel_rfl)) rfl
      exact o_fld68_0 (.tmp 22) rfl b2 e0 ⟨_, rfl, tq_is _ _ _ _ rfl, Kept.refl _ _, fun _ _ _ _ _ => trivial⟩
    | 7, ho, hsk =>
      obtain rfl := Option.some.inj ho
      have e0 : a'.eval (.tmp 23) = .pointer (some ⟨b2, 0, none⟩) := is_tq (hin 6 23 (by kernel_rfl) (by kernel_rfl)) rfl
      exact wp_loadA row66 (.tmp 23) rfl b2 0 e0 R.S rfl (S_range ((unhide H2).kept hk2 (by simp))) ⟨_, rfl, tq_is _ _ _ _ rfl, Kept.refl _ _, fun _ _ _ _ _ => trivial⟩
    | 8, ho, hsk =>
      obtain rfl := Option.some.inj ho
      have e0 : a'.eval (.tmp 20) = aggV P.S := is_tq (hin 3 20 (by kernel_rfl) (by kernel_rfl)) rfl
      have e1 : a'.eval (.tmp 24) = aggV R.S := is_tq (hin 7 24 (by kernel_rfl) (by kernel_rfl)) rfl
      exact o_eqlA 66 66 guard66 (.tmp 20) (.tmp 24) rfl P.S R.S e0 e1 true (by rw [equal66, unhide HST]) ⟨_, rfl, tq_is _ _ _ _ rfl, Kept.refl _ _, fun _ _ _ _ _ => trivial⟩
    | 9, ho, hsk =>
      obtain rfl := Option.some.inj ho
      have e0 : a'.eval (.tmp 25) = .bool true := is_tq (hin 8 25 (by kernel_rfl) (by kernel_rfl)) rfl
      exact wp_move (.tmp 25) rfl _ e0 ⟨_, rfl, tq_is _ _ _ _ rfl, Kept.refl _ _, fun _ _ _ _ _ => trivial⟩
    | 10, ho, hsk =>
      obtain rfl := Option.some.inj ho
      exact wp_move (.tmp 0) rfl _ ((hout 0 (by kernel_rfl)).trans rfl) ⟨_, rfl, tq_is _ _ _ _ rfl, Kept.refl _ _, fun _ _ _ _ _ => trivial⟩
    | 11, ho, hsk =>
      obtain rfl := Option.some.inj ho
      have e0 : a'.eval (.tmp 27) = P0 b := is_tq (hin 10 27 (by kernel_rfl) (by kernel_rfl)) rfl
      exact o_nil (.tmp 27) rfl _ e0 ⟨_, rfl, tq_is _ _ _ _ rfl, Kept.refl _ _, fun _ _ _ _ _ => trivial⟩
    | 12, ho, hsk =>
      obtain rfl := Option.some.inj ho
      have e0 : a'.eval (.tmp 28) = P0 b := is_tq (hin 11 28 (by kernel_rfl) (by kernel_rfl)) rfl
      exact o_fld68_1 (.tmp 28) rfl b e0 ⟨_, rfl, tq_is _ _ _ _ rfl, Kept.refl _ _, fun _ _ _ _ _ => trivial⟩
    | 13, ho, hsk =>
      obtain rfl := Option.some.inj ho
      have e0 : a'.eval (.tmp 29) = .pointer (some ⟨b, 7, none⟩) := is_tq (hin 12 29 (by kernel_rfl) (by kernel_rfl)) rfl
      exact o_load30 (.tmp 29) rfl _ _ e0 (fits_cell ((unhide H1).kept hk2 (by simp)) 7 _ rfl) ⟨_, rfl, tq_is _ _ _ _ rfl, Kept.refl _ _, fun _ _ _ _ _ => trivial⟩
    | 14, ho, hsk =>
      obtain rfl := Option.some.inj ho
      exact wp_move (.tmp 1) rfl _ ((hout 1 (by kernel_rfl)).trans rfl) ⟨_, rfl, tq_is _ _ _ _ rfl, Kept.refl _ _, fun _ _ _ _ _ => trivial⟩
    | 15, ho, hsk =>
      obtain rfl := Option.some.inj ho
      have e0 : a'.eval (.tmp 31) = P0 b2 := is_tq (hin 14 31 (by kernel_rfl) (by kernel_rfl)) rfl
      exact o_nil (.tmp 31) rfl _ e0 ⟨_, rfl, tq_is _ _ _ _ rfl, Kept.refl _ _, fun _ _ _ _ _ => trivial⟩
    | 16, ho, hsk =>
      obtain rfl := Option.some.inj ho
      have e0 : a'.eval (.tmp 32) = P0 b2 := is_tq (hin 15 32 (by kernel_rfl) (by kernel_rfl)) rfl
      exact o_fld68_1 (.tmp 32) rfl b2 e0 ⟨_, rfl, tq_is _ _ _ _ rfl, Kept.refl _ _, fun _ _ _ _ _ => trivial⟩
    | 17, ho, hsk =>
      obtain rfl := Option.some.inj ho
      have e0 : a'.eval (.tmp 33) = .pointer (some ⟨b2, 7, none⟩) := is_tq (hin 16 33 (by kernel_rfl) (by kernel_rfl)) rfl
      exact o_load30 (.tmp 33) rfl _ _ e0 (fits_cell ((unhide H2).kept hk2 (by simp)) 7 _ rfl) ⟨_, rfl, tq_is _ _ _ _ rfl, Kept.refl _ _, fun _ _ _ _ _ => trivial⟩
    | 18, ho, hsk =>
      obtain rfl := Option.some.inj ho
      have e0 : a'.eval (.tmp 30) = v := is_tq (hin 13 30 (by kernel_rfl) (by kernel_rfl)) rfl
      have e1 : a'.eval (.tmp 34) = v2 := is_tq (hin 17 34 (by kernel_rfl) (by kernel_rfl)) rfl
      refine wp_callF 41 _ _ rfl #[v, v2, .func (.func 42) #[] #[]] (by simp [e0, e1]; rfl) (cf41 _ _) ((eqfun41 v v2 ws ws2 _ _ _ ((unhide HS1).kept0 hk2).bods ((unhide HS2).kept0 hk2).bods (unhide HL)).mono ?_)
      rintro e w3 ⟨rfl, hk3⟩
      rw [unhide HEQ]
      exact ⟨_, rfl, _, rfl, tq_is _ _ _ _ rfl, hk3, fun _ _ _ _ _ => trivial⟩
    | 19, ho, hsk =>
      obtain rfl := Option.some.inj ho
      have e0 : a'.eval (.tmp 26) = .bool true := is_tq (hin 9 26 (by kernel_rfl) (by kernel_rfl)) rfl
      have e1 : a'.eval (.tmp 35) = .bool eqb := is_tq (hin 18 35 (by kernel_rfl) (by kernel_rfl)) rfl
      exact o_pick (.tmp 26) (.tmp 35) rfl _ e0 e1 ⟨_, rfl, tq_is _ _ _ _ rfl, Kept.refl _ _, fun _ _ _ _ _ => trivial⟩
    | 20, ho, hsk =>
      obtain rfl := Option.some.inj ho
      have e0 : a'.eval (.tmp 36) = .bool eqb := is_tq (hin 19 36 (by kernel_rfl) (by kernel_rfl)) rfl
      exact wp_assignV (.tmp 36) rfl _ e0 ⟨_, rfl, tq_is _ _ _ _ rfl, Kept.refl _ _, fun _ _ _ _ _ => trivial⟩
  intro w9 hk9
  replace hk9 : Kept [] V2 w9 := ⟨hk9.os, hk9.tape, hk9.output, hk9.size, hk9.block⟩
  simp only [valsQ, List.map_cons, List.map_nil, Option.getD_some, List.take_succ_cons, List.take_zero, putAll, Act.put, List.setIfInBounds_toArray, List.set_cons_succ, List.set_cons_zero]
  refine wpAny_done (by kernel_rfl) ?_ _
  replace HK := hide ((unhide HK).trans hk9)
  clear hk9
  go_wp2_with fail
  go_ret
  exact ⟨by rw [unhide HA]; rfl, unhide HK⟩
set_option maxHeartbeats 2000000 in
theorem same_f (b b2 : Nat) (v v2 : Value) (ws ws2 : List Value) (P R : Ps) (w : World) (h : Sx w b v ws P) (h2 : Sx w b2 v2 ws2 R) (hst : stEq P R = false) : Calls Try.prog 28 #[P0 b, P0 b2] w fun e w' => e = .returned (.bool (sameB P R)) ∧ Kept [] w w' := by
  obtain ⟨eqb, heq⟩ : ∃ eqb, eqb = decide (P.sent.drop P.known = R.sent.drop R.known) := ⟨_, rfl⟩
  have HEQ : Hid (decide (P.sent.drop P.known = R.sent.drop R.known) = eqb) := heq.symm
  have HST := hide hst
  have HL : Hid ((P.sent.drop P.known).length ≤ 1000) := by have h9 := h.ok.many; have : (P.sent.drop P.known).length ≤ 1000 := by rw [List.length_drop]; omega
                                                            exact this
  have PA := hide (fun W (hk : Kept [] w W) => none33 b v ws P W (h.kept0 hk))
  have PB := hide (fun W (hk : Kept [] w W) => none33 b2 v2 ws2 R W (h2.kept0 hk))
  have HS1 := hide h
  have HS2 := hide h2
  have HK := hide (Kept.refl [] w)
  have HA : Hid (sameB P R = false) := by unfold sameB; rw [hst, ← heq]; rfl
  clear h h2 hst heq
  go_enter Try.func28, Try.ntmps28
  go_wp2_with (
    first
    | (go_at_call 33
       refine (unhide PA _ (unhide HK)).mono ?_
       rintro e w1 ⟨rfl, q1, hq⟩
       replace HK : Hid (Kept [] w w1) := (unhide HK).trans (by rw [hq]; exact kept_drewN _ _ _)
       clear hq PA)
    | (go_at_call 33
       refine (unhide PB _ (unhide HK)).mono ?_
       rintro e V2 ⟨rfl, q2, hq⟩
       replace HK : Hid (Kept [] w V2) := (unhide HK).trans (by rw [hq]; exact kept_drewN _ _ _)
       clear hq PB))
  replace HS1 := hide ((unhide HS1).kept0 (unhide HK))
  replace HS2 := hide ((unhide HS2).kept0 (unhide HK))
  have H1 := hide (unhide HS1).head
  have H2 := hide (unhide HS2).head
  refine wp_region_any mixed (wpAny_tq 21 rfl (by kernel_rfl) [some (P0 b), some (P0 b), some (.pointer (some ⟨b, 0, none⟩)), some (aggV P.S), some (P0 b2), some (P0 b2), some (.pointer (some ⟨b2, 0, none⟩)), some (aggV R.S), some (.bool false), some (.bool false), none, none, none, none, none, none, none, none, none, some (.bool false), some (.bool false)] rfl (by kernel_rfl) (by kernel_rfl) ?_ ?_)
  · intro i o' hi hsk ho a' w2 hout hin hk2
    replace hk2 : Kept [] V2 w2 := ⟨hk2.os, hk2.tape, hk2.output, hk2.size, hk2.block⟩
    match i, ho, hsk with
    | 0, ho, hsk =>
      obtain rfl := Option.some.inj ho
      exact wp_move (.tmp 0) rfl _ ((hout 0 (by kernel_rfl)).trans rfl) ⟨_, rfl, tq_is _ _ _ _ rfl, Kept.refl _ _, fun _ _ _ _ _ => trivial⟩
    | 1, ho, hsk =>
      obtain rfl := Option.some.inj ho
      have e0 : a'.eval (.tmp 17) = P0 b := is_tq (hin 0 17 (by kernel_rfl) (by kernel_rfl)) rfl
      exact o_nil (.tmp 17) rfl _ e0 ⟨_, rfl, tq_is _ _ _ _ rfl, Kept.refl _ _, fun _ _ _ _ _ => trivial⟩
    | 2, ho, hsk =>
      obtain rfl := Option.some.inj ho
      have e0 : a'.eval (.tmp 18) = P0 b := is_tq (hin 1 18 (by kernel_rfl) (by kernel_rfl)) rfl
      exact o_fld68_0 (.tmp 18) rfl b e0 ⟨_, rfl, tq_is _ _ _ _ rfl, Kept.refl _ _, fun _ _ _ _ _ => trivial⟩
    | 3, ho, hsk =>
      obtain rfl := Option.some.inj ho
      have e0 : a'.eval (.tmp 19) = .pointer (some ⟨b, 0, none⟩) := is_tq (hin 2 19 (by kernel_rfl) (by kernel_rfl)) rfl
      exact wp_loadA row66 (.tmp 19) rfl b 0 e0 P.S rfl (S_range ((unhide H1).kept hk2 (by simp))) ⟨_, rfl, tq_is _ _ _ _ rfl, Kept.refl _ _, fun _ _ _ _ _ => trivial⟩
    | 4, ho, hsk =>
      obtain rfl := Option.some.inj ho
      exact wp_move (.tmp 1) rfl _ ((hout 1 (by kernel_rfl)).trans rfl) ⟨_, rfl, tq_is _ _ _ _ rfl, Kept.refl _ _, fun _ _ _ _ _ => trivial⟩
    | 5, ho, hsk =>
      obtain rfl := Option.some.inj ho
      have e0 : a'.eval (.tmp 21) = P0 b2 := is_tq (hin 4 21 (by kernel_rfl) (by kernel_rfl)) rfl
      exact o_nil (.tmp 21) rfl _ e0 ⟨_, rfl, tq_is _ _ _ _ rfl, Kept.refl _ _, fun _ _ _ _ _ => trivial⟩
    | 6, ho, hsk =>
      obtain rfl := Option.some.inj ho
      have e0 : a'.eval (.tmp 22) = P0 b2 := is_tq (hin 5 22 (by kernel_rfl) (by kernel_rfl)) rfl
      exact o_fld68_0 (.tmp 22) rfl b2 e0 ⟨_, rfl, tq_is _ _ _ _ rfl, Kept.refl _ _, fun _ _ _ _ _ => trivial⟩
    | 7, ho, hsk =>
      obtain rfl := Option.some.inj ho
      have e0 : a'.eval (.tmp 23) = .pointer (some ⟨b2, 0, none⟩) := is_tq (hin 6 23 (by kernel_rfl) (by kernel_rfl)) rfl
      exact wp_loadA row66 (.tmp 23) rfl b2 0 e0 R.S rfl (S_range ((unhide H2).kept hk2 (by simp))) ⟨_, rfl, tq_is _ _ _ _ rfl, Kept.refl _ _, fun _ _ _ _ _ => trivial⟩
    | 8, ho, hsk =>
      obtain rfl := Option.some.inj ho
      have e0 : a'.eval (.tmp 20) = aggV P.S := is_tq (hin 3 20 (by kernel_rfl) (by kernel_rfl)) rfl
      have e1 : a'.eval (.tmp 24) = aggV R.S := is_tq (hin 7 24 (by kernel_rfl) (by kernel_rfl)) rfl
      exact o_eqlA 66 66 guard66 (.tmp 20) (.tmp 24) rfl P.S R.S e0 e1 false (by rw [equal66, unhide HST]) ⟨_, rfl, tq_is _ _ _ _ rfl, Kept.refl _ _, fun _ _ _ _ _ => trivial⟩
    | 9, ho, hsk =>
      obtain rfl := Option.some.inj ho
      have e0 : a'.eval (.tmp 25) = .bool false := is_tq (hin 8 25 (by kernel_rfl) (by kernel_rfl)) rfl
      exact wp_move (.tmp 25) rfl _ e0 ⟨_, rfl, tq_is _ _ _ _ rfl, Kept.refl _ _, fun _ _ _ _ _ => trivial⟩
    | 10, ho, hsk =>
      cases hsk
    | 11, ho, hsk =>
      cases hsk
    | 12, ho, hsk =>
      cases hsk
    | 13, ho, hsk =>
      cases hsk
    | 14, ho, hsk =>
      cases hsk
    | 15, ho, hsk =>
      cases hsk
    | 16, ho, hsk =>
      cases hsk
    | 17, ho, hsk =>
      cases hsk
    | 18, ho, hsk =>
      cases hsk
    | 19, ho, hsk =>
      obtain rfl := Option.some.inj ho
      have e0 : a'.eval (.tmp 26) = .bool false := is_tq (hin 9 26 (by kernel_rfl) (by kernel_rfl)) rfl
      exact o_pickN (.tmp 26) (.tmp 35) rfl e0 ⟨_, rfl, tq_is _ _ _ _ rfl, Kept.refl _ _, fun _ _ _ _ _ => trivial⟩
    | 20, ho, hsk =>
      obtain rfl := Option.some.inj ho
      have e0 : a'.eval (.tmp 36) = .bool false := is_tq (hin 19 36 (by kernel_rfl) (by kernel_rfl)) rfl
      exact wp_assignV (.tmp 36) rfl _ e0 ⟨_, rfl, tq_is _ _ _ _ rfl, Kept.refl _ _, fun _ _ _ _ _ => trivial⟩
  intro w9 hk9
  replace hk9 : Kept [] V2 w9 := ⟨hk9.os, hk9.tape, hk9.output, hk9.size, hk9.block⟩
  simp only [valsQ, List.map_cons, List.map_nil, Option.getD_some, Option.getD_none, List.take_succ_cons, List.take_zero, putAll, Act.put, List.setIfInBounds_toArray, List.set_cons_succ, List.set_cons_zero]
  refine wpAny_done (by kernel_rfl) ?_ _
  replace HK := hide ((unhide HK).trans hk9)
  clear hk9
  go_wp2_with fail
  go_ret
  exact ⟨by rw [unhide HA]; rfl, unhide HK⟩
theorem same28 (b b2 : Nat) (v v2 : Value) (ws ws2 : List Value) (P R : Ps) (w : World) (h : Sx w b v ws P) (h2 : Sx w b2 v2 ws2 R) : Calls Try.prog 28 #[P0 b, P0 b2] w fun e w' => e = .returned (.bool (sameB P R)) ∧ Kept [] w w' := by
  cases hst : stEq P R with
  | true => exact same_t b b2 v v2 ws ws2 P R w h h2 hst
  | false => exact same_f b b2 v v2 ws ws2 P R w h h2 hst
set_option maxHeartbeats 2000000 in
theorem same_zz (p q : Value) (w : World) (h : Non w p) (h2 : Non w q) : Calls Try.prog 28 #[p, q] w fun e w' => e = .returned (.bool true) ∧ Kept [] w w' := by
  have non_kept : ∀ (x : Value) (W : World), Non w x → Kept [] w W → Non W x := fun x W hx hk => by rcases hx with rfl | ⟨b, rfl, hz⟩; exact .inl rfl; exact .inr ⟨b, rfl, hz.kept0 hk⟩
  have PA := hide (fun W (hk : Kept [] w W) => non33 p W (non_kept p W h hk))
  have PB := hide (fun W (hk : Kept [] w W) => non33 q W (non_kept q W h2 hk))
  have HK := hide (Kept.refl [] w)
  clear h h2 non_kept
  have HPA := PA
  go_enter Try.func28, Try.ntmps28
  go_wp2_with (
    first
    | (go_at_call 33
       refine (unhide PA _ (unhide HK)).mono ?_
       rintro e w1 ⟨rfl, q1, hq⟩
       replace HK : Hid (Kept [] w w1) := (unhide HK).trans (by rw [hq]; exact kept_drewN _ _ _)
       clear hq PA
       refine Stp.go ?_))
  constructor
  go_wp2_with (
    first
    | (go_at_call 33
       refine (unhide HPA _ (unhide HK)).mono ?_
       rintro e w2 ⟨rfl, q2, hq⟩
       replace HK : Hid (Kept [] w w2) := (unhide HK).trans (by rw [hq]; exact kept_drewN _ _ _)
       clear hq HPA
       refine Stp.go ?_))
  constructor
  go_wp2_with (
    first
    | (go_at_call 33
       refine (unhide PB _ (unhide HK)).mono ?_
       rintro e w3 ⟨rfl, q3, hq⟩
       replace HK : Hid (Kept [] w w3) := (unhide HK).trans (by rw [hq]; exact kept_drewN _ _ _)
       clear hq PB))
  go_ret
  exact ⟨rfl, unhide HK⟩
set_option maxHeartbeats 2000000 in
theorem same_xz (b : Nat) (v : Value) (ws : List Value) (P : Ps) (q : Value) (w : World) (h : Sx w b v ws P) (h2 : Non w q) : Calls Try.prog 28 #[P0 b, q] w fun e w' => e = .returned (.bool false) ∧ Kept [] w w' := by
  have non_kept : ∀ (x : Value) (W : World), Non w x → Kept [] w W → Non W x := fun x W hx hk => by rcases hx with rfl | ⟨b, rfl, hz⟩; exact .inl rfl; exact .inr ⟨b, rfl, hz.kept0 hk⟩
  have PA := hide (fun W (hk : Kept [] w W) => none33 b v ws P W (h.kept0 hk))
  have PB := hide (fun W (hk : Kept [] w W) => non33 q W (non_kept q W h2 hk))
  have HK := hide (Kept.refl [] w)
  clear h h2 non_kept
  have HPA := PA
  go_enter Try.func28, Try.ntmps28
  go_wp2_with (
    first
    | (go_at_call 33
       refine (unhide PA _ (unhide HK)).mono ?_
       rintro e w1 ⟨rfl, q1, hq⟩
       replace HK : Hid (Kept [] w w1) := (unhide HK).trans (by rw [hq]; exact kept_drewN _ _ _)
       clear hq PA
       refine Stp.go ?_))
  constructor
  go_wp2_with (
    first
    | (go_at_call 33
       refine (unhide PB _ (unhide HK)).mono ?_
       rintro e w2 ⟨rfl, q2, hq⟩
       replace HK : Hid (Kept [] w w2) := (unhide HK).trans (by rw [hq]; exact kept_drewN _ _ _)
       clear hq PB
       refine Stp.go ?_))
  constructor
  go_wp2_with (
    first
    | (go_at_call 33
       refine (unhide HPA _ (unhide HK)).mono ?_
       rintro e w3 ⟨rfl, q3, hq⟩
       replace HK : Hid (Kept [] w w3) := (unhide HK).trans (by rw [hq]; exact kept_drewN _ _ _)
       clear hq HPA))
  go_ret
  exact ⟨rfl, unhide HK⟩

end Go.Proofs.Ythbgnpbkdeofcaa

/-
  Datagrams that are the same; bodies that are written over.
-/
import Derived.Test.YthbgnpbkdeofcaaSm
namespace Go.Proofs.Ythbgnpbkdeofcaa
set_option maxRecDepth 100000
open Go.RowKit

theorem st5 (w : World) (b TT i : Nat) (us : List Value) (n : Int) (h : Blk w b TT us) (hi : i < us.length) : (storeVar 5 ⟨b, i, none⟩ (.int .u8 n)).run Try.prog w = .ok () (w.setCell ⟨b, i, none⟩ (.int .u8 n)) := by
  have hc := h.cell i
  rw [List.getElem?_eq_getElem hi] at hc
  have hf := h.frozen i
  simp [storeVar, go_sem, hc, hf]
set_option maxHeartbeats 2000000 in
theorem one36 (d : Dg) (u1 u2 : Value) (w : World) (h1 : RowAt w u1 d.bs) (h2 : RowAt w u2 d.bs) : Calls Try.prog 36 #[aggV (d.C u1), aggV (d.C u2)] w fun e w' => e = .returned (.bool true) ∧ Kept [] w w' := by
  have R1 := hide h1
  have R2 := hide h2
  obtain ⟨a1, c1, rfl, _⟩ := h1
  obtain ⟨a2, c2, rfl, _⟩ := h2
  obtain ⟨n, hn⟩ : ∃ n, d.bs.length = n := ⟨_, rfl⟩
  rw [hn] at R1 R2 ⊢
  have HK := hide (Kept.refl [] w)
  clear hn
  go_enter Try.func36, Try.ntmps36
  go_wp2_with (
    first
    | (refine wpBoxV (by rfl) (.tmp 0) (by rfl) (d.C (.slice a1 n c1)) (by kernel_rfl) ?_
       intro W1 p1 e1 B1 K1
       have HP1 := hide B1
       replace HK := hide ((unhide HK).trans K1)
       clear e1 B1 K1)
    | (refine wpBoxV (by rfl) (.tmp 1) (by rfl) (d.C (.slice a2 n c2)) (by kernel_rfl) ?_
       intro W2 p2 e2 B2 K2
       have HP2 := hide B2
       replace HP1 := hide ((unhide HP1).kept K2 (by simp))
       replace HK := hide ((unhide HK).trans K2)
       have hcx := conv33 ((unhide R1).kept (unhide HK))
       have hcy := conv33 ((unhide R2).kept (unhide HK))
       have p10 := fits_cell (unhide HP1) 0 _ rfl
       have p11 := fits_cell (unhide HP1) 1 _ rfl
       have p12 := fits_cell (unhide HP1) 2 _ rfl
       have p13 := fits_cell (unhide HP1) 3 _ rfl
       have p14 := fits_cell (unhide HP1) 4 _ rfl
       have p15 := fits_cell (unhide HP1) 5 _ rfl
       have p20 := fits_cell B2 0 _ rfl
       have p21 := fits_cell B2 1 _ rfl
       have p22 := fits_cell B2 2 _ rfl
       have p23 := fits_cell B2 3 _ rfl
       have p24 := fits_cell B2 4 _ rfl
       have p25 := fits_cell B2 5 _ rfl
       clear e2 B2 K2))
  go_ret
  exact ⟨by simp, unhide HK⟩
section
variable {o : Oper} {a : Act} {w : World} {K : Act → World → Prop} {Q : Exit → Act → World → Prop}
theorem o_idx40 (x y : Operand) (ho : o.op = .indexAddr 40 x y) (g m c k : Nat) (hk : k < m) (hx : a.eval x = .slice (some ⟨g, 0, none⟩) m c) (hy : a.eval y = .int .i64 k) (h : K (a.put o.dst (.pointer (some ⟨g, k * 6, none⟩))) w) : o.wp Try.prog a w K Q := by
  unfold Oper.wp execOp
  simp only [ho, hx, hy]
  simp [go_sem, hk, Addr.add_lit]
  exact h
end
set_option maxHeartbeats 2000000 in
theorem same15 (B1 B2 : Nat) (v1 v2 : Value) (L M : List (Dg × Value)) (w : World) (h1 : Dl w B1 v1 L) (h2 : Dl w B2 v2 M) (he : L.map Prod.fst = M.map Prod.fst) (hL : L.length ≤ 10000) : Calls Try.prog 15 #[v1, v2] w fun e w' => e = .returned (.bool true) ∧ Kept [] w w' := by
  have hl : L.length = M.length := by have := congrArg List.length he; simpa using this
  obtain ⟨a1, c1, rfl⟩ := owns_slN h1.row
  obtain ⟨a2, c2, rfl⟩ := owns_slN h2.row
  obtain ⟨n, hn⟩ : ∃ n, L.length = n := ⟨_, rfl⟩
  rw [← hl]
  have HN := hide hn
  have HNM : Hid (M.length = n) := (by omega : M.length = n)
  have H1 := hide h1
  have H2 := hide h2
  have HE := hide he
  rw [← hl] at H2
  rw [hn] at H1 H2 ⊢
  have hn1 : n ≤ 10000 := by omega
  clear h1 h2 he hl hn hL
  go_enter Try.func15, Try.ntmps15
  go_wp2_with fail
  go_loopw [5] (fun i wr => ∃ k : Nat, k ≤ n ∧ i = .int .i64 k ∧ Hid (Kept [] w wr)) (fun i _ => n - (intOf i).toNat)
  case atStart => exact ⟨0, by omega, rfl, Kept.refl _ _⟩
  case round =>
    obtain ⟨k, hk, rfl, HK⟩ := hrel
    by_cases hlt : k < n
    · obtain ⟨p, hp⟩ : ∃ p, L[k]? = some p := ⟨_, List.getElem?_eq_getElem (by rw [unhide HN]; exact hlt)⟩
      obtain ⟨q, hq⟩ : ∃ q, M[k]? = some q := ⟨_, List.getElem?_eq_getElem (by rw [unhide HNM]; exact hlt)⟩
      have hpq : p.1 = q.1 := by
        have h9 := congrArg (fun l => l[k]?) (unhide HE)
        simp only [List.getElem?_map, hp, hq, Option.map_some] at h9
        exact Option.some.inj h9
      have hD1 := (unhide H1).kept0 (unhide HK)
      have hD2 := (unhide H2).kept0 (unhide HK)
      obtain ⟨g1, rfl, hr1⟩ := hD1.at hp
      obtain ⟨g2, rfl, hr2⟩ := hD2.at hq
      rw [← hpq] at hr2
      have HR1 := hide hr1
      have HR2 := hide hr2
      have HB1 := hide (hD1.bod p (List.mem_of_getElem? hp))
      have hb2 := hD2.bod q (List.mem_of_getElem? hq)
      rw [← hpq] at hb2
      have HB2 := hide hb2
      have HLT := hide hlt
      have hltI : (k : Int) < (n : Int) := by omega
      clear hp hq hpq hD1 hD2 hr1 hr2 hb2
      go_wp2_with fail
      refine wp_region_any mixed (wpAny_tq 10 rfl (by kernel_rfl) [some (.slice (some ⟨g1, 0, none⟩) n c1), some (.int .i64 k), some (.pointer (some ⟨g1, k * 6, none⟩)), some (aggV (p.1.C p.2)), some (.slice (some ⟨g2, 0, none⟩) n c2), some (.int .i64 k), some (.pointer (some ⟨g2, k * 6, none⟩)), some (aggV (p.1.C q.2)), some (.bool true), some (.bool false)] rfl (by kernel_rfl) (by kernel_rfl) ?_ ?_)
      · intro i o' hi hsk ho a' w2 hout hin hk2
        replace hk2 : Kept [] wr w2 := ⟨hk2.os, hk2.tape, hk2.output, hk2.size, hk2.block⟩
        match i, ho, hsk with
        | 0, ho, hsk =>
          obtain rfl := Option.some.inj ho
          exact wp_move (.tmp 0) rfl _ ((hout 0 (by kernel_rfl)).trans rfl) ⟨_, rfl, tq_is _ _ _ _ rfl, Kept.refl _ _, fun _ _ _ _ _ => trivial⟩
        | 1, ho, hsk =>
          obtain rfl := Option.some.inj ho
          exact wp_move (.tmp 5) rfl _ ((hout 5 (by kernel_rfl)).trans rfl) ⟨_, rfl, tq_is _ _ _ _ rfl, Kept.refl _ _, fun _ _ _ _ _ => trivial⟩
        | 2, ho, hsk =>
          obtain rfl := Option.some.inj ho
          have e0 : a'.eval (.tmp 17) = .slice (some ⟨g1, 0, none⟩) n c1 := is_tq (hin 0 17 (by kernel_rfl) (by kernel_rfl)) rfl
          have e1 : a'.eval (.tmp 18) = .int .i64 k := is_tq (hin 1 18 (by kernel_rfl) (by kernel_rfl)) rfl
          exact o_idx40 (.tmp 17) (.tmp 18) rfl g1 n c1 k (unhide HLT) e0 e1 ⟨_, rfl, tq_is _ _ _ _ rfl, Kept.refl _ _, fun _ _ _ _ _ => trivial⟩
        | 3, ho, hsk =>
          obtain rfl := Option.some.inj ho
          have e0 : a'.eval (.tmp 19) = .pointer (some ⟨g1, k * 6, none⟩) := is_tq (hin 2 19 (by kernel_rfl) (by kernel_rfl)) rfl
          exact wp_loadA row35 (.tmp 19) rfl g1 (k * 6) e0 (p.1.C p.2) rfl (fun j y hj => hk2.cell (unhide HR1 j y hj) (by simp)) ⟨_, rfl, tq_is _ _ _ _ rfl, Kept.refl _ _, fun _ _ _ _ _ => trivial⟩
        | 4, ho, hsk =>
          obtain rfl := Option.some.inj ho
          exact wp_move (.tmp 1) rfl _ ((hout 1 (by kernel_rfl)).trans rfl) ⟨_, rfl, tq_is _ _ _ _ rfl, Kept.refl _ _, fun _ _ _ _ _ => trivial⟩
        | 5, ho, hsk =>
          obtain rfl := Option.some.inj ho
          exact wp_move (.tmp 5) rfl _ ((hout 5 (by kernel_rfl)).trans rfl) ⟨_, rfl, tq_is _ _ _ _ rfl, Kept.refl _ _, fun _ _ _ _ _ => trivial⟩
        | 6, ho, hsk =>
          obtain rfl := Option.some.inj ho
          have e0 : a'.eval (.tmp 21) = .slice (some ⟨g2, 0, none⟩) n c2 := is_tq (hin 4 21 (by kernel_rfl) (by kernel_rfl)) rfl
          have e1 : a'.eval (.tmp 22) = .int .i64 k := is_tq (hin 5 22 (by kernel_rfl) (by kernel_rfl)) rfl
          exact o_idx40 (.tmp 21) (.tmp 22) rfl g2 n c2 k (unhide HLT) e0 e1 ⟨_, rfl, tq_is _ _ _ _ rfl, Kept.refl _ _, fun _ _ _ _ _ => trivial⟩
        | 7, ho, hsk =>
          obtain rfl := Option.some.inj ho
          have e0 : a'.eval (.tmp 23) = .pointer (some ⟨g2, k * 6, none⟩) := is_tq (hin 6 23 (by kernel_rfl) (by kernel_rfl)) rfl
          exact wp_loadA row35 (.tmp 23) rfl g2 (k * 6) e0 (p.1.C q.2) rfl (fun j y hj => hk2.cell (unhide HR2 j y hj) (by simp)) ⟨_, rfl, tq_is _ _ _ _ rfl, Kept.refl _ _, fun _ _ _ _ _ => trivial⟩
        | 8, ho, hsk =>
          obtain rfl := Option.some.inj ho
          have e0 : a'.eval (.tmp 20) = aggV (p.1.C p.2) := is_tq (hin 3 20 (by kernel_rfl) (by kernel_rfl)) rfl
          have e1 : a'.eval (.tmp 24) = aggV (p.1.C q.2) := is_tq (hin 7 24 (by kernel_rfl) (by kernel_rfl)) rfl
          refine wp_callF 36 _ _ rfl #[aggV (p.1.C p.2), aggV (p.1.C q.2)] (by simp [e0, e1]) (cf36 _ _) ((one36 p.1 p.2 q.2 _ ((unhide HB1).row.kept hk2) ((unhide HB2).row.kept hk2)).mono ?_)
          rintro e w3 ⟨rfl, hk3⟩
          exact ⟨_, rfl, _, rfl, tq_is _ _ _ _ rfl, hk3, fun _ _ _ _ _ => trivial⟩
        | 9, ho, hsk =>
          obtain rfl := Option.some.inj ho
          have e0 : a'.eval (.tmp 25) = .bool true := is_tq (hin 8 25 (by kernel_rfl) (by kernel_rfl)) rfl
          exact o_not (.tmp 25) rfl _ e0 ⟨_, rfl, tq_is _ _ _ _ rfl, Kept.refl _ _, fun _ _ _ _ _ => trivial⟩
      intro w9 hk9
      replace hk9 : Kept [] wr w9 := ⟨hk9.os, hk9.tape, hk9.output, hk9.size, hk9.block⟩
      simp only [valsQ, List.map_cons, List.map_nil, Option.getD_some, List.take_succ_cons, List.take_zero, putAll, Act.put, List.setIfInBounds_toArray, List.set_cons_succ, List.set_cons_zero]
      refine wpAny_done (by kernel_rfl) ?_ _
      replace HK := hide ((unhide HK).trans hk9)
      clear hk9
      go_wp2_with fail
      go_roundw
      case rel => exact ⟨k + 1, by omega, by go_num, HK⟩
      case measure => simp [intOf]; omega
    · have hltI : ¬ (k : Int) < (n : Int) := by omega
      go_wp2_with fail
      go_ret
      exact ⟨rfl, unhide HK⟩
/-- A body's bytes lie there, whatever they are. -/
def Shp (W : World) (u : Value) : Prop := (∃ c, u = .slice none 0 c) ∨ ∃ g m c us, u = .slice (some ⟨g, 0, none⟩) m c ∧ Blk W g 5 us ∧ m ≤ us.length
theorem Bod.shp {W : World} {u : Value} {bs : List Int} (h : Bod W u bs) : Shp W u := by
  rcases h.own.2 with ⟨rfl, _⟩ | ⟨g, cap, cur, h1, _, h3, h4, _, h6, _⟩
  · exact .inl ⟨0, rfl⟩
  · refine .inr ⟨g, bs.length, cap, cur.toList, h1, ?_, by have h9 : cur.toList.length = cur.size := Array.length_toList; omega⟩
    unfold Blk
    exact h3
theorem Shp.set {W W' : World} {u : Value} {g i : Nat} {us : List Value} {x : Value} (h : Shp W u) (hB : Blk W g 5 us) (hB' : Blk W' g 5 (us.set i x)) (hk : Kept [g] W W') : Shp W' u := by
  rcases h with h | ⟨g', m, c, us', rfl, h2, h3⟩
  · exact .inl h
  · by_cases e : g' = g
    · subst e
      have : us' = us := by
        unfold Blk at h2 hB
        rw [h2] at hB
        injection hB with hB
        injection hB with h9 _
        simpa using congrArg Array.toList h9
      subst this
      exact .inr ⟨g', m, c, _, rfl, hB', by rw [List.length_set]; exact h3⟩
    · exact .inr ⟨g', m, c, us', rfl, h2.kept hk (by simpa using e), h3⟩
theorem Shp.kept0 {W W' : World} {u : Value} (h : Shp W u) (hk : Kept [] W W') : Shp W' u := by
  rcases h with h | ⟨g', m, c, us', rfl, h2, h3⟩
  · exact .inl h
  · exact .inr ⟨g', m, c, us', rfl, h2.kept hk (by simp), h3⟩
/-- The blocks of the bodies of a row. -/
def bodX (L : List (Dg × Value)) : List Nat := L.flatMap fun p => p.2.ownBlock.toList
theorem mem_bodX {L : List (Dg × Value)} {k : Nat} (h : k ∈ bodX L) : ∃ p ∈ L, p.2.ownBlock = some k := by
  obtain ⟨p, hp, hk⟩ := List.mem_flatMap.1 h
  exact ⟨p, hp, by simpa using hk⟩
set_option maxHeartbeats 2000000 in
theorem over17 (B : Nat) (v : Value) (L : List (Dg × Value)) (w : World) (h : Dl w B v L) (hL : L.length ≤ 10000) (hs : ∀ p ∈ L, p.1.bs.length ≤ 10000) : Calls Try.prog 17 #[v] w fun e w' => e = .returned (.tuple #[]) ∧ Kept (bodX L) w w' := by
  obtain ⟨a1, c1, rfl⟩ := owns_slN h.row
  obtain ⟨n, hn⟩ : ∃ n, L.length = n := ⟨_, rfl⟩
  have HN := hide hn
  have HD := hide h
  have hn1 : n ≤ 10000 := by omega
  have HSM := hide hs
  have HSH : Hid (∀ p ∈ L, Shp w p.2) := fun p hp => (h.bod p hp).shp
  have HNX : Hid (∀ k, (Value.slice a1 L.length c1).ownBlock = some k → k ∉ bodX L) := fun k e hm => by
    obtain ⟨p, hp, hk⟩ := mem_bodX hm
    obtain ⟨cs, hc⟩ := ((unhide HD).bod p hp).block k hk
    obtain ⟨cs', hc'⟩ := owns_block (unhide HD).row k e
    rw [hc] at hc'
    cases hc'
  rw [hn] at HD HNX ⊢
  clear h hn hL hs
  go_enter Try.func17, Try.ntmps17
  go_wp2_with fail
  go_loopw [2] (fun i wr => ∃ k : Nat, k ≤ n ∧ i = .int .i64 k ∧ Hid (∀ p ∈ L, Shp wr p.2) ∧ Hid (Kept (bodX L) w wr)) (fun i _ => n - (intOf i).toNat)
  case atStart => exact ⟨0, by omega, rfl, HSH, Kept.refl _ _⟩
  case round =>
    clear HSH
    obtain ⟨k, hk, rfl, HSH, HK⟩ := hrel
    by_cases hlt : k < n
    · obtain ⟨p, hp⟩ : ∃ p, L[k]? = some p := ⟨_, List.getElem?_eq_getElem (by rw [unhide HN]; exact hlt)⟩
      have hpm := List.mem_of_getElem? hp
      obtain ⟨g1, rfl, hr1⟩ := (unhide HD).at hp
      have HR5 : Hid (∀ W : World, Kept (bodX L) w W → W.cell? ⟨g1, k * 6 + 5, none⟩ = some p.2) := fun W hkW => hkW.cell (hr1 5 p.2 rfl) (unhide HNX g1 rfl)
      obtain ⟨uo, uc, hu, _, _⟩ := ((unhide HD).bod p hpm).sl
      obtain ⟨m, hm⟩ : ∃ m, p.1.bs.length = m := ⟨_, rfl⟩
      have hm1 : m ≤ 10000 := by rw [← hm]; exact unhide HSM p hpm
      rw [hm] at hu
      rw [hu] at HR5
      have HU := hide hu
      have hltI : (k : Int) < (n : Int) := by omega
      have HPM := hide hpm
      have HKK := HK
      clear hp hpm hr1 hu hm
      go_wp2_with fail
      go_loopw [3] (fun i wr2 => ∃ j : Nat, j ≤ m ∧ i = .int .i64 j ∧ Hid (∀ p ∈ L, Shp wr2 p.2) ∧ Hid (Kept (bodX L) w wr2)) (fun i _ => m - (intOf i).toNat)
      case atStart => exact ⟨0, by omega, rfl, HSH, HK⟩
      case round =>
        clear HSH HK HKK
        obtain ⟨j, hj, rfl, HSH, HK⟩ := hrel
        have hc5 := unhide HR5 _ (unhide HK)
        by_cases hjt : j < m
        · have hjI : (j : Int) < (m : Int) := by omega
          rcases unhide HSH p (unhide HPM) with ⟨c9, h9⟩ | ⟨g, m9, c9, us, h9, hB9, hlen9⟩
          · exfalso; rw [unhide HU] at h9; cases h9; omega
          · rw [unhide HU] at h9
            injection h9 with h91 h92 h93
            subst h91 h92
            have HB9 := hide hB9
            have HGX : Hid (g ∈ bodX L) := List.mem_flatMap.2 ⟨p, unhide HPM, by rw [unhide HU]; simp [Value.ownBlock]⟩
            have HLEN := hide hlen9
            clear hB9 hlen9 h93
            go_wp2_with (
              first
              | (refine wpStoreV (T := 5) (b := g) (i := j) (v := .int .u8 99) (by rfl) (.tmp 26) (.const (.int .u8 99)) (by rfl) (by rfl) (by kernel_rfl) (by rfl) 5 us (unhide HB9) (st5 _ _ _ _ _ _ (unhide HB9) (by have h1 := unhide HLEN; omega)) ?_
                 intro V7 B7 K7
                 have HSH7 : Hid (∀ p ∈ L, Shp V7 p.2) := fun p hp => (unhide HSH p hp).set (unhide HB9) B7 K7
                 have HK7 : Hid (Kept (bodX L) w V7) := (unhide HK).trans (K7.mono (fun i hi => by simp at hi; subst hi; exact unhide HGX))
                 clear B7 K7 hc5))
            go_roundw
            case rel => exact ⟨j + 1, by omega, by go_num, HSH7, HK7⟩
            case measure => simp [intOf]; omega
        · have hjI : ¬ (j : Int) < (m : Int) := by omega
          go_wp2_with fail
          go_roundw
          case rel => exact ⟨k + 1, by omega, by go_num, HSH, HK⟩
          case measure => simp [intOf]; omega
    · have hltI : ¬ (k : Int) < (n : Int) := by omega
      go_wp2_with fail
      go_end0
      exact ⟨rfl, unhide HK⟩

end Go.Proofs.Ythbgnpbkdeofcaa

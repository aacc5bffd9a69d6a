/-
  The walk of the document's Said.
-/
import Derived.Test.YtkpkiibahfdomaaDoorRnum
namespace Go.Proofs.YtkpkiibahfdomaaDoor
open Go.RowKit

theorem res39 (w : World) (z : Nat) (vs : List Value) (tmps : Array Value) (h4 : tmps[4]?.getD undef = P0 z) (hl : vs.length = 101) (hb : Blk w z 25 vs) : (results Tryd.f39 tmps).run Tryd.prog w = .ok (aggV vs) w := by
  have := loadV row25 hl hb
  simp [results, Tryd.results39, h4, this, asAddr]
/-- The first j bytes of both halves. -/
def bothJ (x y : List Int) (j : Nat) : List Int := (x.take j ++ zs (48 - j)) ++ (y.take j ++ zs (48 - j))
theorem bothJ_len {x y : List Int} (hx : x.length = 48) (hy : y.length = 48) (j : Nat) (hj : j ≤ 48) : (bothJ x y j).length = 96 := by simp [bothJ, hx, hy, zs]; omega
theorem take_set {x : List Int} (hx : x.length = 48) (j : Nat) (hj : j < 48) : (x.take j ++ zs (48 - j)).set j (x[j]'(by omega)) = x.take (j + 1) ++ zs (48 - (j + 1)) := by
  obtain ⟨k, hk⟩ : ∃ k, 48 - j = k + 1 := ⟨47 - j, by omega⟩
  have hk2 : 48 - (j + 1) = k := by omega
  have ht : (x.take j).length = j := by rw [List.length_take]; omega
  have ht2 : x.take (j + 1) = x.take j ++ [x[j]'(by omega)] := List.take_succ_eq_append_getElem (by omega)
  rw [hk, hk2, ht2, List.set_append_right _ _ (by omega), ht, Nat.sub_self]
  simp only [zs, List.replicate_succ, List.set_cons_zero, List.append_assoc, List.cons_append, List.nil_append]
theorem bothJ_set {x y : List Int} (hx : x.length = 48) (hy : y.length = 48) (j : Nat) (hj : j < 48) : ((bothJ x y j).set j (x[j]'(by omega))).set (48 + j) (y[j]'(by omega)) = bothJ x y (j + 1) := by
  have h1 : (x.take j ++ zs (48 - j)).length = 48 := by simp [hx, zs]; omega
  have h2 : (x.take (j + 1) ++ zs (48 - (j + 1))).length = 48 := by simp [hx, zs]; omega
  unfold bothJ
  rw [List.set_append_left _ _ (by omega), take_set hx j hj, List.set_append_right _ _ (by omega), h2, Nat.add_sub_cancel_left, take_set hy j hj]
theorem bothJ_all {x y : List Int} (hx : x.length = 48) (hy : y.length = 48) : bothJ x y 48 = x ++ y := by
  unfold bothJ
  rw [List.take_of_length_le (by omega), List.take_of_length_le (by omega)]
  simp [zs]
theorem bothJ_no (x y : List Int) : bothJ x y 0 = zs 96 := by simp [bothJ, zs]
theorem half_get {a : List Int} (ha : Byts 64 a) {j : Nat} (hj : j < 48) : (halfS a)[j]'(by rw [(halfS_byts ha).len]; exact hj) = a[14 + j]'(by rw [ha.len]; omega) := by simp [halfS]
theorem build25s (w : World) (a b c d e : Int) : (Instr.build 25 #[(0, .int .i64 a), (3, .int .i64 d), (1, .int .i64 b), (2, .int .i64 c), (4, .int .i64 e)]).run Tryd.prog w = .ok (aggV (recC ⟨a, b, c, d, e, zs 96⟩)) w := by kernel_rfl
theorem cf41 (vs : Array Value) (w : World) : (callFunc 41 vs).run Tryd.prog w = .ok (.enter 41 vs) w := by kernel_rfl
section
variable {o : Oper} {a : Act} {w : World} {K : Act → World → Prop} {Q : Exit → Act → World → Prop}
theorem o_quo16 (x : Operand) (ho : o.op = .binOp .quo 3 x (.const (.int .i64 16)) 3) (c : Int) (hc : 0 ≤ c ∧ c < 256) (hx : a.eval x = .int .i64 c) (h : K (a.put o.dst (.int .i64 (c / 16))) w) : o.wp Tryd.prog a w K Q := by
  have h1 : c.tdiv 16 = c / 16 := Int.tdiv_eq_ediv_of_nonneg hc.1
  have hw : IntKind.i64.wrap (c / 16) = c / 16 := by rw [IntKind.wrap_i64]; omega
  unfold Oper.wp execOp
  simp only [ho, hx]
  simp [go_sem, h1, hw]
  exact h
theorem o_rem16 (x : Operand) (ho : o.op = .binOp .rem 3 x (.const (.int .i64 16)) 3) (c : Int) (hc : 0 ≤ c ∧ c < 256) (hx : a.eval x = .int .i64 c) (h : K (a.put o.dst (.int .i64 (c % 16))) w) : o.wp Tryd.prog a w K Q := by
  have h1 : c.tmod 16 = c % 16 := Int.tmod_eq_emod_of_nonneg hc.1
  unfold Oper.wp execOp
  simp only [ho, hx]
  simp [go_sem, h1]
  exact h
end
theorem vs16 {vs : List Value} (h : vs.length = 16) : ∃ a b c d e f g i j k l m n o p q, vs = [a, b, c, d, e, f, g, i, j, k, l, m, n, o, p, q] := by
  match vs, h with
  | [a, b, c, d, e, f, g, i, j, k, l, m, n, o, p, q], _ => exact ⟨a, b, c, d, e, f, g, i, j, k, l, m, n, o, p, q, rfl⟩
/-- What Said keeps while it goes. -/
structure Dw (w wr : World) (b0 b1 zb q : Nat) (s t : List Int) (r : Rec) : Prop where
  s0 : Blk wr b0 29 (u8s s)
  s1 : Blk wr b1 29 (u8s t)
  res : Blk wr zb 25 (recC zrec)
  rc : Blk wr q 25 (recC r)
  kept : Kept [] w wr
  nz : w.heap.size ≤ zb
  nq : zb < q
  n0 : b0 < q
  n1 : b1 < q
theorem recC_at (r : Rec) (i : Nat) : (recC r)[5 + i]? = (u8s r.bd)[i]? := by rw [Nat.add_comm]; rfl
theorem recC_set (a b c d e : Int) (l : List Int) (i : Nat) (x : Int) : (recC ⟨a, b, c, d, e, l⟩).set (5 + i) (.int .u8 x) = recC ⟨a, b, c, d, e, l.set i x⟩ := by
  rw [Nat.add_comm]
  show _ :: _ :: _ :: _ :: _ :: (u8s l).set i (.int .u8 x) = _
  rw [u8s_set]
  rfl
theorem Dw.two {w wr : World} {b0 b1 zb q : Nat} {s t : List Int} {A B C D E : Int} {X : List Int} (h : Dw w wr b0 b1 zb q s t ⟨A, B, C, D, E, X⟩) (i k : Nat) (x y : Int) : Dw w (((wr.setCell ⟨q, 5 + i, none⟩ (.int .u8 x)).setCell ⟨q, 5 + k, none⟩ (.int .u8 y)).drew) b0 b1 zb q s t ⟨A, B, C, D, E, (X.set i x).set k y⟩ := by
  have h0 := h.n0
  have h1 := h.n1
  have h2 := h.nq
  have h3 := h.nz
  refine ⟨((h.s0.set_other (by omega) _).set_other (by omega) _).drew, ((h.s1.set_other (by omega) _).set_other (by omega) _).drew, ((h.res.set_other (by omega) _).set_other (by omega) _).drew, ?_, ((h.kept.setCell (by simp; omega) _).setCell (by simp; omega) _).drew, h3, h2, h0, h1⟩
  have := ((h.rc.set (i := 5 + i) (.int .u8 x)).set (i := 5 + k) (.int .u8 y)).drew
  rw [recC_set, recC_set] at this
  exact this

set_option maxHeartbeats 4000000 in
set_option maxRecDepth 100000 in
theorem said39 (s t : List Int) (hs : Byts 64 s) (ht : Byts 64 t) (w : World) : Calls Tryd.prog 39 #[aggV (u8s s), aggV (u8s t)] w fun e w' => e = .returned (aggV (recC (betR s t))) ∧ Kept [] w w' := by
  have hsu : (u8s s).length = 64 := by rw [u8s_len, hs.len]
  have hal := (halfS_byts hs).len
  have hbl := (halfS_byts ht).len
  have lbet := recC_len (betR_ok hs ht).bd.len
  have hbet : betR s t = ⟨numL s 1 1 / 16, numL s 2 4, numL s 6 4, numL s 1 1 % 16, numL s 10 4, halfS s ++ halfS t⟩ := rfl
  rw [hbet] at lbet ⊢
  clear hbet
  have hc := byte1 hs 1 (by omega)
  have hc1 : (u8s s)[1]? = some (.int .u8 (numL s 1 1)) := by rw [numL1 hs 1 (by omega)]; simp [u8s, hs.len]
  have N2 := hide (fun w => number41 s hs 2 (by omega) w)
  have N6 := hide (fun w => number41 s hs 6 (by omega) w)
  have N10 := hide (fun w => number41 s hs 10 (by omega) w)
  generalize numL s 1 1 = c at hc hc1 lbet ⊢
  generalize numL s 2 4 = n2 at N2 lbet ⊢
  generalize numL s 6 4 = n6 at N6 lbet ⊢
  generalize numL s 10 4 = n10 at N10 lbet ⊢
  have HC1 := hide hc1
  have HC := hide hc
  clear hc1 hc
  have zrecl : (recC zrec).length = 101 := recC_len zrec_ok.bd.len
  have l0 : (recC ⟨c / 16, n2, n6, c % 16, n10, zs 96⟩).length = 101 := recC_len (by simp [zs])
  go_enter Tryd.func39, Tryd.ntmps39
  go_wp2_with (
    first
    | (refine wpBoxV rfl (.tmp 0) rfl (u8s s) rfl ?_
       intro W0 b0 e0 B0 K0
       have A0 := hide B0
       have KA := hide K0
       clear e0 B0 K0)
    | (refine wpBoxV rfl (.tmp 1) rfl (u8s t) rfl ?_
       intro W1 b1 e1 B1 K1
       have A1 := hide B1
       have C0 := hide ((unhide A0).kept K1 (by simp))
       have KB := hide ((unhide KA).trans K1)
       clear e1 B1 K1 A0 KA)
    | (refine wpAllocW (recC zrec) zero25 4 rfl rfl rfl ?_
       intro W2 zb ez BZ1 K2
       have d0 := hide ((unhide C0).kept K2 (by simp))
       have d1 := hide ((unhide A1).kept K2 (by simp))
       have dz := hide BZ1
       have nz : Hid (w.heap.size ≤ zb) := by have := (unhide KB).size; show _ ≤ _; omega
       have dk := hide ((unhide KB).trans K2)
       clear ez BZ1 K2 A1 C0 KB))
  refine wp_region_prefix mixed 16 1 rfl (by kernel_rfl) (tab [.is (.pointer (some ⟨b0, 0 + 1, none⟩)), .is (.int .u8 c), .is (.int .i64 c), .is (.int .i64 (c / 16)), .is (.pointer (some ⟨b0, 0 + 1, none⟩)), .is (.int .u8 c), .is (.int .i64 c), .is (.int .i64 (c % 16)), .is (aggV (u8s s)), .is (.int .i64 n2), .is (aggV (u8s s)), .is (.int .i64 n6), .is (aggV (u8s s)), .is (.int .i64 n10), .is (aggV (recC ⟨c / 16, n2, n6, c % 16, n10, zs 96⟩)), .new 25 (recC zrec) W2.heap.size]) (apartE [15]) (tab_kept _) (by kernel_rfl) ?_ ?_
  · intro j o hj ho a w2 hout hin hk
    match j, ho with
    | 0, ho =>
      obtain rfl := Option.some.inj ho
      exact o_idx29 (.tmp 2) 1 (by omega) rfl b0 0 ((hout 2 (by kernel_rfl)).trans rfl) ⟨_, rfl, rfl, Kept.refl _ _, fun i u _ _ _ => apart_no (by decide) i u _⟩
    | 1, ho =>
      obtain rfl := Option.some.inj ho
      have e0 : a.eval (.tmp 7) = .pointer (some ⟨b0, 0 + 1, none⟩) := hin 0 7 (by kernel_rfl) (by kernel_rfl)
      exact o_load5 (.tmp 7) rfl ⟨b0, 0 + 1, none⟩ (.int .u8 c) e0 (fits_cell ((unhide d0).kept hk (by simp)) 1 _ (unhide HC1)) ⟨_, rfl, rfl, Kept.refl _ _, fun i u _ _ _ => apart_no (by decide) i u _⟩
    | 2, ho =>
      obtain rfl := Option.some.inj ho
      have e0 : a.eval (.tmp 8) = .int .u8 c := hin 1 8 (by kernel_rfl) (by kernel_rfl)
      exact o_conv53 (.tmp 8) rfl c (unhide HC) e0 ⟨_, rfl, rfl, Kept.refl _ _, fun i u _ _ _ => apart_no (by decide) i u _⟩
    | 3, ho =>
      obtain rfl := Option.some.inj ho
      have e0 : a.eval (.tmp 9) = .int .i64 c := hin 2 9 (by kernel_rfl) (by kernel_rfl)
      exact o_quo16 (.tmp 9) rfl c (unhide HC) e0 ⟨_, rfl, rfl, Kept.refl _ _, fun i u _ _ _ => apart_no (by decide) i u _⟩
    | 4, ho =>
      obtain rfl := Option.some.inj ho
      exact o_idx29 (.tmp 2) 1 (by omega) rfl b0 0 ((hout 2 (by kernel_rfl)).trans rfl) ⟨_, rfl, rfl, Kept.refl _ _, fun i u _ _ _ => apart_no (by decide) i u _⟩
    | 5, ho =>
      obtain rfl := Option.some.inj ho
      have e0 : a.eval (.tmp 11) = .pointer (some ⟨b0, 0 + 1, none⟩) := hin 4 11 (by kernel_rfl) (by kernel_rfl)
      exact o_load5 (.tmp 11) rfl ⟨b0, 0 + 1, none⟩ (.int .u8 c) e0 (fits_cell ((unhide d0).kept hk (by simp)) 1 _ (unhide HC1)) ⟨_, rfl, rfl, Kept.refl _ _, fun i u _ _ _ => apart_no (by decide) i u _⟩
    | 6, ho =>
      obtain rfl := Option.some.inj ho
      have e0 : a.eval (.tmp 12) = .int .u8 c := hin 5 12 (by kernel_rfl) (by kernel_rfl)
      exact o_conv53 (.tmp 12) rfl c (unhide HC) e0 ⟨_, rfl, rfl, Kept.refl _ _, fun i u _ _ _ => apart_no (by decide) i u _⟩
    | 7, ho =>
      obtain rfl := Option.some.inj ho
      have e0 : a.eval (.tmp 13) = .int .i64 c := hin 6 13 (by kernel_rfl) (by kernel_rfl)
      exact o_rem16 (.tmp 13) rfl c (unhide HC) e0 ⟨_, rfl, rfl, Kept.refl _ _, fun i u _ _ _ => apart_no (by decide) i u _⟩
    | 8, ho =>
      obtain rfl := Option.some.inj ho
      exact wp_loadA row29 (.tmp 2) rfl b0 0 ((hout 2 (by kernel_rfl)).trans rfl) (u8s s) hsu ((unhide d0).kept hk (by simp)).range ⟨_, rfl, rfl, Kept.refl _ _, fun i u _ _ _ => apart_no (by decide) i u _⟩
    | 9, ho =>
      obtain rfl := Option.some.inj ho
      have e0 : a.eval (.tmp 15) = aggV (u8s s) := hin 8 15 (by kernel_rfl) (by kernel_rfl)
      refine wp_callF 41 _ _ rfl #[aggV (u8s s), .int .i64 (2 : Nat)] (by simp [e0]; rfl) (cf41 _ _) ((unhide N2 w2).mono ?_)
      rintro e w3 ⟨rfl, hk3⟩
      exact ⟨_, rfl, _, rfl, rfl, hk3, fun i u _ _ _ => apart_no (by decide) i u _⟩
    | 10, ho =>
      obtain rfl := Option.some.inj ho
      exact wp_loadA row29 (.tmp 2) rfl b0 0 ((hout 2 (by kernel_rfl)).trans rfl) (u8s s) hsu ((unhide d0).kept hk (by simp)).range ⟨_, rfl, rfl, Kept.refl _ _, fun i u _ _ _ => apart_no (by decide) i u _⟩
    | 11, ho =>
      obtain rfl := Option.some.inj ho
      have e0 : a.eval (.tmp 17) = aggV (u8s s) := hin 10 17 (by kernel_rfl) (by kernel_rfl)
      refine wp_callF 41 _ _ rfl #[aggV (u8s s), .int .i64 (6 : Nat)] (by simp [e0]; rfl) (cf41 _ _) ((unhide N6 w2).mono ?_)
      rintro e w3 ⟨rfl, hk3⟩
      exact ⟨_, rfl, _, rfl, rfl, hk3, fun i u _ _ _ => apart_no (by decide) i u _⟩
    | 12, ho =>
      obtain rfl := Option.some.inj ho
      exact wp_loadA row29 (.tmp 2) rfl b0 0 ((hout 2 (by kernel_rfl)).trans rfl) (u8s s) hsu ((unhide d0).kept hk (by simp)).range ⟨_, rfl, rfl, Kept.refl _ _, fun i u _ _ _ => apart_no (by decide) i u _⟩
    | 13, ho =>
      obtain rfl := Option.some.inj ho
      have e0 : a.eval (.tmp 19) = aggV (u8s s) := hin 12 19 (by kernel_rfl) (by kernel_rfl)
      refine wp_callF 41 _ _ rfl #[aggV (u8s s), .int .i64 (10 : Nat)] (by simp [e0]; rfl) (cf41 _ _) ((unhide N10 w2).mono ?_)
      rintro e w3 ⟨rfl, hk3⟩
      exact ⟨_, rfl, _, rfl, rfl, hk3, fun i u _ _ _ => apart_no (by decide) i u _⟩
    | 14, ho =>
      obtain rfl := Option.some.inj ho
      have e0 : a.eval (.tmp 10) = .int .i64 (c / 16) := hin 3 10 (by kernel_rfl) (by kernel_rfl)
      have e1 : a.eval (.tmp 14) = .int .i64 (c % 16) := hin 7 14 (by kernel_rfl) (by kernel_rfl)
      have e2 : a.eval (.tmp 16) = .int .i64 n2 := hin 9 16 (by kernel_rfl) (by kernel_rfl)
      have e3 : a.eval (.tmp 18) = .int .i64 n6 := hin 11 18 (by kernel_rfl) (by kernel_rfl)
      have e4 : a.eval (.tmp 20) = .int .i64 n10 := hin 13 20 (by kernel_rfl) (by kernel_rfl)
      exact o_buildP _ rfl #[(0, .int .i64 (c / 16)), (3, .int .i64 (c % 16)), (1, .int .i64 n2), (2, .int .i64 n6), (4, .int .i64 n10)] (by simp [e0, e1, e2, e3, e4]) _ (build25s _ _ _ _ _ _) ⟨_, rfl, rfl, Kept.refl _ _, fun i u _ _ _ => apart_no (by decide) i u _⟩
    | 15, ho =>
      obtain rfl := Option.some.inj ho
      exact wp_allocA (recC zrec) zero25 rfl ⟨_, rfl, ⟨_, rfl, hk.size, Blk.new' rfl⟩, (Kept.refl _ _).alloc _, fun i u _ _ h => apart_new (by simp) i 15 u h⟩
    | n + 16, ho => exact absurd hj (by omega)
  · intro vs w3 hlen hF hE hk
    obtain ⟨x0, x1, x2, x3, x4, x5, x6, x7, x8, x9, x10, x11, x12, x13, x14, x15, rfl⟩ := vs16 hlen
    obtain rfl : x0 = .pointer (some ⟨b0, 0 + 1, none⟩) := hF 0 _ rfl
    obtain rfl : x1 = .int .u8 c := hF 1 _ rfl
    obtain rfl : x2 = .int .i64 c := hF 2 _ rfl
    obtain rfl : x3 = .int .i64 (c / 16) := hF 3 _ rfl
    obtain rfl : x4 = .pointer (some ⟨b0, 0 + 1, none⟩) := hF 4 _ rfl
    obtain rfl : x5 = .int .u8 c := hF 5 _ rfl
    obtain rfl : x6 = .int .i64 c := hF 6 _ rfl
    obtain rfl : x7 = .int .i64 (c % 16) := hF 7 _ rfl
    obtain rfl : x8 = aggV (u8s s) := hF 8 _ rfl
    obtain rfl : x9 = .int .i64 n2 := hF 9 _ rfl
    obtain rfl : x10 = aggV (u8s s) := hF 10 _ rfl
    obtain rfl : x11 = .int .i64 n6 := hF 11 _ rfl
    obtain rfl : x12 = aggV (u8s s) := hF 12 _ rfl
    obtain rfl : x13 = .int .i64 n10 := hF 13 _ rfl
    obtain rfl : x14 = aggV (recC ⟨c / 16, n2, n6, c % 16, n10, zs 96⟩) := hF 14 _ rfl
    obtain ⟨q, rfl, hq, hbq⟩ : ∃ q, x15 = P0 q ∧ W2.heap.size ≤ q ∧ Blk w3 q 25 (recC zrec) := hF 15 _ rfl
    simp only [List.take_succ_cons, List.take_zero, putAll, Act.put, List.setIfInBounds_toArray, List.set_cons_succ, List.set_cons_zero]
    refine wpAny_all (rs := [16]) (by kernel_rfl) (by simp) ?_
    intro i hi
    obtain rfl : i = 16 := by simpa using hi
    refine wpOp_of rfl rfl (wp_storeN row25 (.tmp 5) (.tmp 21) rfl rfl q 0 (recC ⟨c / 16, n2, n6, c % 16, n10, zs 96⟩) rfl rfl l0 (recC_one _) (hbq.there (by rw [zrecl]; omega)) ?_)
    refine wpAny_done (by kernel_rfl) ?_ _
    have D0 : Hid (Dw w (w3.setCells q 0 (recC ⟨c / 16, n2, n6, c % 16, n10, zs 96⟩)) b0 b1 zb q s t ⟨c / 16, n2, n6, c % 16, n10, zs 96⟩) := by
      have y0 := (unhide d0).lt
      have y1 := (unhide d1).lt
      have y2 := (unhide dz).lt
      have y3 := unhide nz
      have y4 := (unhide dk).size
      exact ⟨((unhide d0).kept hk (by simp)).other (by omega), ((unhide d1).kept hk (by simp)).other (by omega), ((unhide dz).kept hk (by simp)).other (by omega), hbq.put (by rw [zrecl, l0]), ((unhide dk).trans hk).setCells _ _ (by omega), y3, by omega, by omega, by omega⟩
    clear hF hE hk hbq hq d0 d1 dz dk nz
    generalize (w3.setCells q 0 (recC ⟨c / 16, n2, n6, c % 16, n10, zs 96⟩)) = W4 at *
    clear hlen l0
    go_wp2_with fail
    go_loopw [6] (fun i wr => ∃ j : Nat, j ≤ 48 ∧ i = .int .i64 j ∧ Hid (Dw w wr b0 b1 zb q s t ⟨c / 16, n2, n6, c % 16, n10, bothJ (halfS s) (halfS t) j⟩)) (fun i _ => 48 - (intOf i).toNat)
    case atStart => exact ⟨0, by omega, rfl, by rw [bothJ_no]; exact D0⟩
    case round =>
      obtain ⟨j, hj, rfl, R⟩ := hrel
      clear D0
      have hJl := bothJ_len hal hbl j hj
      by_cases hlt : j < 48
      · obtain ⟨x, ex⟩ : ∃ x, (halfS s)[j]'(by omega) = x := ⟨_, rfl⟩
        obtain ⟨y, ey⟩ : ∃ y, (halfS t)[j]'(by omega) = y := ⟨_, rfl⟩
        have qx : wr.cell? ⟨b0, 14 + j, none⟩ = some (.int .u8 x) := fits_cell (unhide R).s0 (14 + j) _ (by simp [u8s, show 14 + j < s.length by rw [hs.len]; omega]; rw [← half_get hs hlt, ex])
        have qy : wr.cell? ⟨b1, 14 + j, none⟩ = some (.int .u8 y) := fits_cell (unhide R).s1 (14 + j) _ (by simp [u8s, show 14 + j < t.length by rw [ht.len]; omega]; rw [← half_get ht hlt, ey])
        have e6 : ((14 : Int) + (j : Int)).toNat = 14 + j := by omega
        have e48 : ((48 : Int) + (j : Int)).toNat = 48 + j := by omega
        have q1 : wr.cell? ⟨q, 5 + j, none⟩ = some (.int .u8 ((bothJ (halfS s) (halfS t) j)[j]'(by omega))) := fits_cell (unhide R).rc (5 + j) _ (by rw [recC_at]; simp [u8s, show j < (bothJ (halfS s) (halfS t) j).length by omega])
        have q2 : wr.cell? ⟨q, 5 + (48 + j), none⟩ = some (.int .u8 ((bothJ (halfS s) (halfS t) j)[48 + j]'(by omega))) := fits_cell (unhide R).rc (5 + (48 + j)) _ (by rw [recC_at]; simp [u8s, show 48 + j < (bothJ (halfS s) (halfS t) j).length by omega])
        have z1 := (unhide R).rc.frozen (5 + j)
        have z2 := (unhide R).rc.frozen (5 + (48 + j))
        have EX := hide ex
        have EY := hide ey
        clear ex ey
        go_wp2_with fail
        go_region
        all_goals go_wp2_with fail
        all_goals go_roundw
        case rel =>
          refine ⟨j + 1, by omega, by go_num, ?_⟩
          have e1 := bothJ_set hal hbl j hlt
          rw [unhide EX, unhide EY] at e1
          rw [← e1]
          exact (unhide R).two j (48 + j) x y
        case measure => simp [intOf]; omega
      · obtain rfl : j = 48 := by omega
        rw [bothJ_all hal hbl] at R
        clear hJl
        go_wp2_with (
          first
          | (refine wpLoadA row25 (by rfl) (.tmp 5) (by rfl) q 0 (by rfl) (recC ⟨c / 16, n2, n6, c % 16, n10, halfS s ++ halfS t⟩) lbet (unhide R).rc.range ?_)
          | (refine wpStoreA row25 (by rfl) (.tmp 4) (.tmp 41) (by rfl) zb 0 (recC ⟨c / 16, n2, n6, c % 16, n10, halfS s ++ halfS t⟩) (by rfl) (by rfl) lbet (recC_one _) ((unhide R).res.there (by rw [zrecl]; omega)) ?_))
        have g4 := (unhide R).res.put (vs := recC ⟨c / 16, n2, n6, c % 16, n10, halfS s ++ halfS t⟩) (by rw [zrecl, lbet])
        have nz := (unhide R).nz
        exact bodyPost_ret (res39 _ _ _ _ rfl lbet g4) rfl ⟨rfl, (unhide R).kept.setCells _ _ (by omega)⟩

end Go.Proofs.YtkpkiibahfdomaaDoor

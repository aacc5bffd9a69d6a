/-
  do: a letter is sent, of bytes that are written over.
-/
import Derived.Test.YtpcggcicpojdoaaDc
namespace Go.Proofs.Ytpcggcicpojdoaa
open Go.RowKit

section
variable {o : Oper} {a : Act} {w : World} {K : Act → World → Prop} {Q : Exit → Act → World → Prop}
theorem o_fld36_1 (x : Operand) (ho : o.op = .fieldAddr 36 x 1) (b : Nat) (hx : a.eval x = P0 b) (h : K (a.put o.dst (.pointer (some ⟨b, 1, none⟩))) w) : o.wp Try.prog a w K Q := by
  unfold Oper.wp execOp
  simp only [ho, hx]
  simp [go_sem]
  exact h
theorem o_fld36_2 (x : Operand) (ho : o.op = .fieldAddr 36 x 2) (b : Nat) (hx : a.eval x = P0 b) (h : K (a.put o.dst (.pointer (some ⟨b, 2, none⟩))) w) : o.wp Try.prog a w K Q := by
  unfold Oper.wp execOp
  simp only [ho, hx]
  simp [go_sem]
  exact h
theorem o_fld36_4 (x : Operand) (ho : o.op = .fieldAddr 36 x 4) (b : Nat) (hx : a.eval x = P0 b) (h : K (a.put o.dst (.pointer (some ⟨b, 4, none⟩))) w) : o.wp Try.prog a w K Q := by
  unfold Oper.wp execOp
  simp only [ho, hx]
  simp [go_sem]
  exact h
theorem o_len34 (t : Nat) (ho : o.op = .call { callee := .builtin .len, args := #[.tmp t], argTypes := #[34] }) (ao : Option Addr) (m c : Nat) (hx : a.eval (.tmp t) = .slice ao m c) (h : K (a.put o.dst (.int .i64 m)) w) : o.wp Try.prog a w K Q := by
  have hr : (Builtin.len_ #[34] o.type #[.slice ao m c]).run Try.prog w = .ok (.int .i64 m) w := by kernel_rfl
  unfold Oper.wp execOp
  simp only [ho, resolve, invoke, builtin, Sem.run_bind, Sem.run_pure, Result.andThen_ok, List.map_toArray, List.map_cons, List.map_nil, hx, hr]
  exact h
theorem o_sl34A (x : Operand) (t : Nat) (ho : o.op = .slice 34 x none (some (.tmp t)) none) (g m c k : Nat) (hk : k ≤ c) (hx : a.eval x = .slice (some ⟨g, 0, none⟩) m c) (hy : a.eval (.tmp t) = .int .i64 k) (h : K (a.put o.dst (.slice (some ⟨g, 0, none⟩) k c)) w) : o.wp Try.prog a w K Q := by
  unfold Oper.wp execOp
  simp only [ho, hx, hy, Option.map_none, Option.map_some]
  simp [go_sem, hk]
  exact h
theorem o_ext (x : Operand) (i : Nat) (ho : o.op = .extract x i) (vs : Array Value) (u : Value) (hx : a.eval x = .tuple vs) (hu : vs[i]? = some u) (h : K (a.put o.dst u) w) : o.wp Try.prog a w K Q := by
  unfold Oper.wp execOp
  simp only [ho, hx]
  simp [go_sem, hu]
  exact h
end
section
variable {ops : Array Oper} {rest : List Oper} {op : Oper} {a : Act} {w : World} {Q : Exit → Act → World → Prop}
theorem wpConv34 (hgd : op.guard = none) (x : Operand) (ho : op.op = .convert 34 9 x) (v : Value) (l : List Int) (hx : a.eval x = v) (hr : RowAt w v l) (h : wpList Try.prog ops Q rest (a.put op.dst (.string (strOfNums l))) w) : wpList Try.prog ops Q (op :: rest) a w :=
  wpList_plain hgd fun K hK => by
    unfold Oper.wp execOp
    simp only [ho, hx, Sem.run_bind, conv34 hr, Result.andThen_ok]
    exact hK _ _ h
theorem wpAddS (hgd : op.guard = none) (x y : Operand) (ho : op.op = .binOp .add 9 x y 9) (s t q : ByteArray) (hsz : s.size + t.size ≤ 9223372036854775807) (hq : s ++ t = q) (hx : a.eval x = .string s) (hy : a.eval y = .string t) (h : wpList Try.prog ops Q rest (a.put op.dst (.string q)) w) : wpList Try.prog ops Q (op :: rest) a w :=
  wpList_plain hgd fun K hK => by
    subst hq
    unfold Oper.wp execOp
    simp only [ho, hx, hy]
    simp [go_sem, Nat.not_lt.2 hsz]
    exact hK _ _ h
theorem wpEqlSS (hgd : op.guard = none) (x y : Operand) (ho : op.op = .binOp .eql 9 x y 9) (s : ByteArray) (hx : a.eval x = .string s) (hy : a.eval y = .string s) (h : wpList Try.prog ops Q rest (a.put op.dst (.bool true)) w) : wpList Try.prog ops Q (op :: rest) a w :=
  wpList_plain hgd fun K hK => by
    unfold Oper.wp execOp
    simp only [ho, hx, hy]
    simp [go_sem]
    exact hK _ _ h
theorem wpAppW {T e by8 : Nat} {z : Value} (hT : Try.prog.underlying T = some (.slice e)) (hI : (Try.prog.info? e).map (fun i => (i.zero, i.size, i.bytes)) = some (some z, 1, by8)) (hz : z.cells.size = 1) (h8 : by8 ≤ 8) (hgd : op.guard = none) (s x : Operand) (ho : op.op = .call { callee := .builtin .append, args := #[s, x], argTypes := #[T, T] })
    (B : Nat) (v : Value) (xs ys : List Value) (hs : a.eval s = v) (ao : Option Addr) (m c : Nat) (hx : a.eval x = .slice ao m c) (hnil : ao = none → m = 0 ∧ c = 0) (hys : Vals w ao m c ys) (hone : ∀ u ∈ ys, u.oneCell' = true) (hown : w.ownsRow B e 1 v xs.length xs) (hk : xs.length + m ≤ 2000000) (hB : B ≤ w.heap.size)
    (h : ∀ v' w', w'.ownsRow B e 1 v' (xs ++ ys).length (xs ++ ys) → w.grownBy w' v.ownBlock → wpList Try.prog ops Q rest (a.put op.dst v') w') : wpList Try.prog ops Q (op :: rest) a w := by
  obtain ⟨i0, hi, hz0, hz1, hz2⟩ := info_parts hI
  have hl := hys.len
  have hb8 : (xs.length + m) * by8 ≤ 140737488355328 := by
    have : (xs.length + m) * by8 ≤ 2000000 * 8 := Nat.mul_le_mul hk h8
    omega
  cases ao with
  | none =>
    obtain ⟨rfl, rfl⟩ := hnil rfl
    obtain rfl : ys = [] := List.length_eq_zero_iff.1 hl
    exact wpList_append_own_none hgd s x T ho B e i0 1 hT hi v _ _ hs hown hx (h v w (by rw [List.append_nil]; exact hown) ⟨rfl, rfl, rfl, Nat.le_refl _, fun _ _ _ => rfl⟩)
  | some ad =>
    refine wpList_append_own w hgd s x T ho B e i0 z 1 by8 hT hi hz0 hz1 hz2 hz (by decide) v xs.length xs hs hown ad m c ys hx (by omega) ?_ hone (by unfold maxLen; omega) hb8 hB ?_
    · intro j u hj
      exact vals_cell hys rfl hj
    · intro v' w' g1 g2 _
      rw [← hl, ← List.length_append] at g1
      exact h v' w' g1 g2
theorem bs119 (w : World) : (Instr.buildSlice 34 1 #[(0, .int .u8 119)]).run Try.prog w = .ok (.slice (some ⟨w.heap.size, 0, none⟩) 1 1) (w.alloc (.cells [Value.int .u8 119].toArray 5)) := by kernel_rfl
end
theorem str_w (bs : List Int) : strOfNums bs ++ ⟨#[119]⟩ = strOfNums (bs ++ [119]) := by
  apply ByteArray.ext
  simp [strOfNums]
theorem str_size (l : List Int) : (strOfNums l).size = l.length := by simp [strOfNums, ByteArray.size]
theorem st5 (w : World) (b TT i : Nat) (us : List Value) (n : Int) (h : Blk w b TT us) (hi : i < us.length) : (storeVar 5 ⟨b, i, none⟩ (.int .u8 n)).run Try.prog w = .ok () (w.setCell ⟨b, i, none⟩ (.int .u8 n)) := by
  have hc := h.cell i
  rw [List.getElem?_eq_getElem hi] at hc
  have hf := h.frozen i
  simp [storeVar, go_sem, hc, hf]
theorem Nt.spoil {W W' : World} {b mb g : Nat} {v : Value} {N : Nn} {us : List Value} (h : Nt W b mb v N) (hB : Blk W g 5 us) (hl : ∀ l ∈ N.L, l.v.ownBlock ≠ some g) (hk : Kept [g] W W') : Nt W' b mb v N := by
  refine h.kept hk fun k hm => ?_
  obtain ⟨_, _, hm⟩ := hm
  simp at hm
  subst hm
  refine ⟨?_, hl⟩
  simp only [nX, List.mem_cons, Option.mem_toList, not_or]
  refine ⟨?_, map_not_cells h.map hB, not_in_own hB h.ord (by decide)⟩
  rintro rfl
  exact absurd (blk_ty hB h.head) (by decide)
theorem Rt.spoil {W W' : World} {r g : Nat} {lv : Value} {R : Nn} {us : List Value} (h : Rt W r lv R) (hB : Blk W g 5 us) (hl : ∀ l ∈ R.L, l.v.ownBlock ≠ some g) (hk : Kept [g] W W') : Rt W' r lv R := by
  refine ⟨h.head.kept hk ?_, owns_keptX h.row hk (fun k e hm => ?_), fun l hlm => (h.body l hlm).kept hk (fun k e hm => ?_)⟩
  · simp
    rintro rfl
    exact absurd (blk_ty hB h.head) (by decide)
  · simp at hm
    subst hm
    obtain ⟨cs, hc⟩ := owns_block h.row k e
    unfold Blk at hB
    rw [hB] at hc
    injection hc with hc
    injection hc with _ hc
    exact absurd hc (by decide)
  · simp at hm
    subst hm
    exact hl l hlm e
theorem body_old {W : World} {L : List Ltr} (h : ∀ l ∈ L, Bod W l.v l.bs) {l : Ltr} (hl : l ∈ L) {k : Nat} (e : l.v.ownBlock = some k) : k < W.heap.size := by
  obtain ⟨cs, hc⟩ := (h l hl).block k e
  exact lt_of_block hc
/-- What the region of Send keeps. -/
@[reducible] def S12 (w : World) (b mb : Nat) (v : Value) (N : Nn) (P : Pn) (d : Nat → Bool) (_ : Nat → Value) (W : World) : Prop :=
  (d 10 = false → Kept [] w W) ∧ (d 10 = true → ∃ w0 v' N', Kept [] w w0 ∧ Mut w0 W b mb v v' N' P ∧ NewL w0 N.L N'.L)
theorem S12.loc {w : World} {b mb : Nat} {v : Value} {N : Nn} {P : Pn} : ∀ d d' vs vs' W, (∀ i ∈ [10], d i = d' i ∧ vs i = vs' i) → S12 w b mb v N P d vs W → S12 w b mb v N P d' vs' W := by
  intro d d' vs vs' W H h
  have e := H 10 (by simp)
  unfold S12 at h ⊢
  rw [← e.1]
  exact h
theorem Dn.spoil {w W W' : World} {b mb : Nat} {v : Value} {N : Nn} {r : Nat} {b' mb' : Nat} {v' : Value} {N' : Nn} {lv' : Value} {R' : Nn} {g : Nat} {us : List Value} (h : Dn w W b mb v N r b' mb' v' N' lv' R') (hB : Blk W g 5 us) (h1 : ∀ l ∈ N'.L, l.v.ownBlock ≠ some g) (h2 : ∀ l ∈ R'.L, l.v.ownBlock ≠ some g) (hg : w.heap.size ≤ g) (hk : Kept [g] W W') : Dn w W' b mb v N r b' mb' v' N' lv' R' :=
  ⟨⟨h.pw.net.spoil hB h1 hk, h.pw.ref.spoil hB h2 hk, h.pw.pl⟩, h.last, h.nodes, h.k.fresh hk (fun i hi hl => by simp at hi; omega), h.fb, h.fm, h.fv⟩
theorem cg16 (vs : Array Value) (w : World) : (callFunc 16 vs).run Try.prog w = .ok (.enter 16 vs) w := by kernel_rfl
set_option maxHeartbeats 8000000 in
set_option maxRecDepth 100000 in
theorem do12_1 (x : Stq) (b mb : Nat) (v : Value) (N : Nn) (r : Nat) (lv : Value) (R : Nn) (w : World) (h : Pw w b mb v N r lv R) (hla : N.last ≤ 1000000000000) (B : Nat) (hx : x.Ok w B) (hBw : B ≤ w.heap.size) (hB : ∀ i ∈ r :: nX b mb v, B ≤ i) (hk : x.k = 1) : Calls Try.prog 12 #[P0 b, P0 r, aggV x.C] w fun e w' => ∃ b' mb' v' N' lv' R', e = .returned (.tuple #[P0 b', P0 r, .bool true]) ∧ Dn w w' b mb v N r b' mb' v' N' lv' R' := by
  have HP := hide h
  have HLA := hide hla
  have HX := hide hx
  have HB := hide hB
  have HBw := hide hBw
  clear h hla hx hB hBw
  go_enter Try.func12, Try.ntmps12
  go_wp2_with (
    first
    | (refine wpBoxV (by rfl) (.tmp 2) (by rfl) x.C (by kernel_rfl) ?_
       intro V1 p5 e5 B5 K5
       have HX5 := hide B5
       have HK := hide K5
       have hx0 := fits_cell (unhide HX5) 0 (.int .i64 x.k) rfl
       have hx1 := fits_cell (unhide HX5) 1 (.int .i64 x.a) rfl
       have hx2 := fits_cell (unhide HX5) 2 (.int .i64 x.b) rfl
       have hx3 := fits_cell (unhide HX5) 3 (.int .i64 x.n) rfl
       have hx4 := fits_cell (unhide HX5) 4 (.slice x.ao x.m x.c) rfl
       have HP1 := hide ((unhide HP).kept0 (unhide HK))
       have HX1 := hide ((unhide HX).kept K5 (by simp))
       have HS1 := hide K5.size
       clear e5 B5 K5
       refine Stp.go ?_))
  constructor
  go_wp2_with (
    first
    | (at_builtin; refine wpAppW (T := 34) (e := 5) (by8 := 1) (z := .int .u8 0) Try.sl34 Try.info5 rfl (by decide) (by rfl) (.const (.slice none 0 0)) (.tmp 34) (by rfl) V1.heap.size (.slice none 0 0) [] (u8s x.bs) (by rfl) x.ao x.m x.c (by kernel_rfl) (unhide HX1).nil (unhide HX1).vals (u8s_one _) (World.ownsRow_nil _ _ _ _) (by have := (unhide HX1).big; simp; omega) (Nat.le_refl _) ?_
       intro v35 V2 hO hg
       rw [List.nil_append] at hO
       have HO := hide hO
       have K2 : Kept [] V1 V2 := Kept.of_grown hg (fun k e _ => by cases e)
       have HK2 := hide K2
       clear hO hg K2 hx0 hx1 hx2 hx3 hx4
       refine Stp.go ?_))
  constructor
  go_wp2_with (
    first
    | (refine wpBuildS1 (.int .u8 119) bs119 (by rfl) (.const (.int .u8 119)) (by rfl) (by rfl) ?_
       intro V3 q e36 B36 K36
       have HB36 := hide B36
       replace HO := hide (owns_keptX (unhide HO) K36 (by simp))
       replace HK2 := hide ((unhide HK2).trans K36)
       clear e36 B36 K36
       refine Stp.go ?_))
  constructor
  go_wp2_with (
    first
    | (at_builtin; refine wpAppW (T := 34) (e := 5) (by8 := 1) (z := .int .u8 0) Try.sl34 Try.info5 rfl (by decide) (by rfl) (.tmp 35) (.tmp 36) (by rfl) V1.heap.size v35 (u8s x.bs) (u8s [119]) (by rfl) (some ⟨q, 0, none⟩) 1 1 (by rfl) (fun e => by cases e) (vals_blk (bs := [119]) (unhide HB36).range) (u8s_one _) (unhide HO) (by have h1 := (unhide HX1).big; have h2 := (unhide HX1).vals.len; omega) (unhide HK2).size ?_
       intro v37 V4 hO hg
       rw [← u8s_app] at hO
       obtain ⟨g, ex, hv37, hg0, hB9⟩ := owns_blk hO (by simp [u8s])
       have hl37 : (u8s (x.bs ++ [119])).length = x.m + 1 := by have h2 := (unhide HX1).vals.len; rw [u8s_len] at h2; rw [u8s_len]; simp; omega
       rw [hl37] at hv37
       obtain ⟨cap, hcap⟩ : ∃ cap, (u8s (x.bs ++ [119]) ++ ex).length = cap := ⟨_, rfl⟩
       have HCAP : Hid (x.m ≤ cap) := by have h3 : (u8s (x.bs ++ [119]) ++ ex).length = (u8s (x.bs ++ [119])).length + ex.length := List.length_append; show x.m ≤ cap; omega
       have HCL : Hid (x.m + 1 ≤ cap) := by have h3 : (u8s (x.bs ++ [119]) ++ ex).length = (u8s (x.bs ++ [119])).length + ex.length := List.length_append; show x.m + 1 ≤ cap; omega
       rw [hcap] at hv37
       subst hv37
       have HCE := hide hcap
       have HB9 := hide hB9
       have HG9 := hide hg0
       have K4 : Kept [] V1 V4 := (unhide HK2).fresh (Kept.of_grown (X := v35.ownBlock.toList) hg (fun k e _ => by rw [e]; simp)) (fun i hi hl => by rw [Option.mem_toList] at hi; have := ((unhide HO).lt i hi).1; omega)
       replace HX5 := hide ((unhide HX5).kept K4 (by simp))
       have HP4 := hide ((unhide HP1).kept0 K4)
       have HX4 := hide ((unhide HX1).kept K4 (by simp))
       have HS4 := hide K4.size
       replace HK := hide ((unhide HK).trans K4)
       clear hO hg hg0 hB9 hl37 hcap K4 HK2 HO HB36
       refine Stp.go ?_))
  constructor
  have P16 := hide (fun W (hk : Kept [] V4 W) => p16 b mb v N x.a x.b (some ⟨g, 0, none⟩) x.m cap x.bs W ((unhide HP4).net.kept0 hk) ⟨by rw [(unhide HX4).vals.len], unhide HCAP, fun _ => ⟨g, 0, rfl, fun j u hj => hk.cell ((unhide HB9).rangeIn (o := 0) (u8s x.bs) (fun i hi => by rw [Nat.zero_add, u8s_app, List.append_assoc, List.getElem?_append_left hi]) j u hj) (by simp)⟩⟩ (fun e => by cases e) (unhide HX4).byte (fun _ h off e => by cases e; have h1 := (unhide HP1).net.lt.1; have h2 := unhide HG9; omega) (unhide HLA))
  go_wp2_with fail
  refine wp_region_any mixed (wpAny_gx 16 rfl (by kernel_rfl) [some (P0 b), some (.pointer (some ⟨p5, 1, none⟩)), some (.int .i64 x.a), some (.pointer (some ⟨p5, 2, none⟩)), some (.int .i64 x.b), some (.slice (some ⟨g, 0, none⟩) (x.m + 1) cap), some (.pointer (some ⟨p5, 4, none⟩)), some (.slice x.ao x.m x.c), some (.int .i64 x.m), some (.slice (some ⟨g, 0, none⟩) x.m cap), some (.tuple #[.int .i64 (psend N.pl x.a x.b x.bs).2.1, .int .i64 (psend N.pl x.a x.b x.bs).2.2]), some (.tuple #[.int .i64 (psend N.pl x.a x.b x.bs).2.1, .int .i64 (psend N.pl x.a x.b x.bs).2.2]), some (.int .i64 (psend N.pl x.a x.b x.bs).2.1), some (.int .i64 (psend N.pl x.a x.b x.bs).2.2), some (.int .i64 (psend N.pl x.a x.b x.bs).2.1), some (.int .i64 (psend N.pl x.a x.b x.bs).2.2)] rfl (by kernel_rfl) (fun l vs W => (S12 V4 b mb v N (psend N.pl x.a x.b x.bs).1) (fun i => l.getD i false) vs W) (⟨fun _ => ⟨rfl, rfl, rfl, Nat.le_refl _, fun _ _ _ => rfl⟩, fun h => by cases h⟩) ?_ ?_)
  · intro ix o' hi ho a' w2 l vs hls hlf hJ hout hin hdep hnot
    match ix, ho with
    | 0, ho =>
      obtain rfl := Option.some.inj ho
      have e0 := hout 0 (by kernel_rfl)
      replace e0 : a'.eval (.tmp 0) = _ := e0.trans rfl
      exact wp_move (.tmp 0) rfl _ e0 ⟨_, rfl, told_of rfl, keepG (St := (S12 V4 b mb v N (psend N.pl x.a x.b x.bs).1)) [10] S12.loc (by omega) (by decide) hJ⟩
    | 1, ho =>
      obtain rfl := Option.some.inj ho
      have e0 := hout 5 (by kernel_rfl)
      replace e0 : a'.eval (.tmp 5) = _ := e0.trans rfl
      exact o_fld36_1 (.tmp 5) rfl _ e0 ⟨_, rfl, told_of rfl, keepG (St := (S12 V4 b mb v N (psend N.pl x.a x.b x.bs).1)) [10] S12.loc (by omega) (by decide) hJ⟩
    | 2, ho =>
      obtain rfl := Option.some.inj ho
      have e0 : a'.eval (.tmp 40) = .pointer (some ⟨p5, 1, none⟩) := by have h9 := hin 1 40 (by kernel_rfl) (by kernel_rfl); exact h9.1.trans (told_is _ h9.2 rfl)
      exact o_load3 (.tmp 40) rfl _ _ e0 (fits_cell ((unhide HX5).kept (hJ.1 (hnot 10 (by kernel_rfl))) (by simp)) 1 _ rfl) ⟨_, rfl, told_of rfl, keepG (St := (S12 V4 b mb v N (psend N.pl x.a x.b x.bs).1)) [10] S12.loc (by omega) (by decide) hJ⟩
    | 3, ho =>
      obtain rfl := Option.some.inj ho
      have e0 := hout 5 (by kernel_rfl)
      replace e0 : a'.eval (.tmp 5) = _ := e0.trans rfl
      exact o_fld36_2 (.tmp 5) rfl _ e0 ⟨_, rfl, told_of rfl, keepG (St := (S12 V4 b mb v N (psend N.pl x.a x.b x.bs).1)) [10] S12.loc (by omega) (by decide) hJ⟩
    | 4, ho =>
      obtain rfl := Option.some.inj ho
      have e0 : a'.eval (.tmp 42) = .pointer (some ⟨p5, 2, none⟩) := by have h9 := hin 3 42 (by kernel_rfl) (by kernel_rfl); exact h9.1.trans (told_is _ h9.2 rfl)
      exact o_load3 (.tmp 42) rfl _ _ e0 (fits_cell ((unhide HX5).kept (hJ.1 (hnot 10 (by kernel_rfl))) (by simp)) 2 _ rfl) ⟨_, rfl, told_of rfl, keepG (St := (S12 V4 b mb v N (psend N.pl x.a x.b x.bs).1)) [10] S12.loc (by omega) (by decide) hJ⟩
    | 5, ho =>
      obtain rfl := Option.some.inj ho
      have e0 := hout 9 (by kernel_rfl)
      replace e0 : a'.eval (.tmp 9) = _ := e0.trans rfl
      exact wp_move (.tmp 9) rfl _ e0 ⟨_, rfl, told_of rfl, keepG (St := (S12 V4 b mb v N (psend N.pl x.a x.b x.bs).1)) [10] S12.loc (by omega) (by decide) hJ⟩
    | 6, ho =>
      obtain rfl := Option.some.inj ho
      have e0 := hout 5 (by kernel_rfl)
      replace e0 : a'.eval (.tmp 5) = _ := e0.trans rfl
      exact o_fld36_4 (.tmp 5) rfl _ e0 ⟨_, rfl, told_of rfl, keepG (St := (S12 V4 b mb v N (psend N.pl x.a x.b x.bs).1)) [10] S12.loc (by omega) (by decide) hJ⟩
    | 7, ho =>
      obtain rfl := Option.some.inj ho
      have e0 : a'.eval (.tmp 45) = .pointer (some ⟨p5, 4, none⟩) := by have h9 := hin 6 45 (by kernel_rfl) (by kernel_rfl); exact h9.1.trans (told_is _ h9.2 rfl)
      exact o_load34 (.tmp 45) rfl _ _ e0 (fits_cell ((unhide HX5).kept (hJ.1 (hnot 10 (by kernel_rfl))) (by simp)) 4 _ rfl) ⟨_, rfl, told_of rfl, keepG (St := (S12 V4 b mb v N (psend N.pl x.a x.b x.bs).1)) [10] S12.loc (by omega) (by decide) hJ⟩
    | 8, ho =>
      obtain rfl := Option.some.inj ho
      have e0 : a'.eval (.tmp 46) = .slice x.ao x.m x.c := by have h9 := hin 7 46 (by kernel_rfl) (by kernel_rfl); exact h9.1.trans (told_is _ h9.2 rfl)
      exact o_len34 46 rfl _ _ _ e0 ⟨_, rfl, told_of rfl, keepG (St := (S12 V4 b mb v N (psend N.pl x.a x.b x.bs).1)) [10] S12.loc (by omega) (by decide) hJ⟩
    | 9, ho =>
      obtain rfl := Option.some.inj ho
      have e0 : a'.eval (.tmp 44) = .slice (some ⟨g, 0, none⟩) (x.m + 1) cap := by have h9 := hin 5 44 (by kernel_rfl) (by kernel_rfl); exact h9.1.trans (told_is _ h9.2 rfl)
      have e1 : a'.eval (.tmp 47) = .int .i64 x.m := by have h9 := hin 8 47 (by kernel_rfl) (by kernel_rfl); exact h9.1.trans (told_is _ h9.2 rfl)
      exact o_sl34A (.tmp 44) 47 rfl g (x.m + 1) cap x.m (unhide HCAP) e0 e1 ⟨_, rfl, told_of rfl, keepG (St := (S12 V4 b mb v N (psend N.pl x.a x.b x.bs).1)) [10] S12.loc (by omega) (by decide) hJ⟩
    | 10, ho =>
      obtain rfl := Option.some.inj ho
      have e0 : a'.eval (.tmp 39) = P0 b := by have h9 := hin 0 39 (by kernel_rfl) (by kernel_rfl); exact h9.1.trans (told_is _ h9.2 rfl)
      have e1 : a'.eval (.tmp 41) = .int .i64 x.a := by have h9 := hin 2 41 (by kernel_rfl) (by kernel_rfl); exact h9.1.trans (told_is _ h9.2 rfl)
      have e2 : a'.eval (.tmp 43) = .int .i64 x.b := by have h9 := hin 4 43 (by kernel_rfl) (by kernel_rfl); exact h9.1.trans (told_is _ h9.2 rfl)
      have e3 : a'.eval (.tmp 48) = .slice (some ⟨g, 0, none⟩) x.m cap := by have h9 := hin 9 48 (by kernel_rfl) (by kernel_rfl); exact h9.1.trans (told_is _ h9.2 rfl)
      refine wp_callF 16 _ _ rfl #[P0 b, .int .i64 x.a, .int .i64 x.b, .slice (some ⟨g, 0, none⟩) x.m cap] (by simp [e0, e1, e2, e3]) (cg16 _ _) ((unhide P16 w2 (hJ.1 hlf)).mono ?_)
      rintro e w3 ⟨v', N', rfl, hm, hn⟩
      exact ⟨_, rfl, _, rfl, told_of rfl, nextG (St := (S12 V4 b mb v N (psend N.pl x.a x.b x.bs).1)) (by omega) ⟨(fun h => by cases h), fun _ => ⟨w2, v', N', hJ.1 hlf, hm, hn⟩⟩⟩
    | 11, ho =>
      obtain rfl := Option.some.inj ho
      have e0 : a'.eval (.tmp 49) = .tuple #[.int .i64 (psend N.pl x.a x.b x.bs).2.1, .int .i64 (psend N.pl x.a x.b x.bs).2.2] := by have h9 := hin 10 49 (by kernel_rfl) (by kernel_rfl); exact h9.1.trans (told_is _ h9.2 rfl)
      exact wp_move (.tmp 49) rfl _ e0 ⟨_, rfl, told_of rfl, keepG (St := (S12 V4 b mb v N (psend N.pl x.a x.b x.bs).1)) [10] S12.loc (by omega) (by decide) hJ⟩
    | 12, ho =>
      obtain rfl := Option.some.inj ho
      have e0 : a'.eval (.tmp 38) = .tuple #[.int .i64 (psend N.pl x.a x.b x.bs).2.1, .int .i64 (psend N.pl x.a x.b x.bs).2.2] := by have h9 := hin 11 38 (by kernel_rfl) (by kernel_rfl); exact h9.1.trans (told_is _ h9.2 rfl)
      exact o_ext (.tmp 38) 0 rfl _ _ e0 rfl ⟨_, rfl, told_of rfl, keepG (St := (S12 V4 b mb v N (psend N.pl x.a x.b x.bs).1)) [10] S12.loc (by omega) (by decide) hJ⟩
    | 13, ho =>
      obtain rfl := Option.some.inj ho
      have e0 : a'.eval (.tmp 38) = .tuple #[.int .i64 (psend N.pl x.a x.b x.bs).2.1, .int .i64 (psend N.pl x.a x.b x.bs).2.2] := by have h9 := hin 11 38 (by kernel_rfl) (by kernel_rfl); exact h9.1.trans (told_is _ h9.2 rfl)
      exact o_ext (.tmp 38) 1 rfl _ _ e0 rfl ⟨_, rfl, told_of rfl, keepG (St := (S12 V4 b mb v N (psend N.pl x.a x.b x.bs).1)) [10] S12.loc (by omega) (by decide) hJ⟩
    | 14, ho =>
      obtain rfl := Option.some.inj ho
      have e0 : a'.eval (.tmp 50) = .int .i64 (psend N.pl x.a x.b x.bs).2.1 := by have h9 := hin 12 50 (by kernel_rfl) (by kernel_rfl); exact h9.1.trans (told_is _ h9.2 rfl)
      exact wp_assignV (.tmp 50) rfl _ e0 ⟨_, rfl, told_of rfl, keepG (St := (S12 V4 b mb v N (psend N.pl x.a x.b x.bs).1)) [10] S12.loc (by omega) (by decide) hJ⟩
    | 15, ho =>
      obtain rfl := Option.some.inj ho
      have e0 : a'.eval (.tmp 51) = .int .i64 (psend N.pl x.a x.b x.bs).2.2 := by have h9 := hin 13 51 (by kernel_rfl) (by kernel_rfl); exact h9.1.trans (told_is _ h9.2 rfl)
      exact wp_assignV (.tmp 51) rfl _ e0 ⟨_, rfl, told_of rfl, keepG (St := (S12 V4 b mb v N (psend N.pl x.a x.b x.bs).1)) [10] S12.loc (by omega) (by decide) hJ⟩
  intro l vs w9 hl hJ htold
  have t0 : vs 0 = P0 b := told_is _ (htold 0 (by decide)) rfl
  have t1 : vs 1 = .pointer (some ⟨p5, 1, none⟩) := told_is _ (htold 1 (by decide)) rfl
  have t2 : vs 2 = .int .i64 x.a := told_is _ (htold 2 (by decide)) rfl
  have t3 : vs 3 = .pointer (some ⟨p5, 2, none⟩) := told_is _ (htold 3 (by decide)) rfl
  have t4 : vs 4 = .int .i64 x.b := told_is _ (htold 4 (by decide)) rfl
  have t5 : vs 5 = .slice (some ⟨g, 0, none⟩) (x.m + 1) cap := told_is _ (htold 5 (by decide)) rfl
  have t6 : vs 6 = .pointer (some ⟨p5, 4, none⟩) := told_is _ (htold 6 (by decide)) rfl
  have t7 : vs 7 = .slice x.ao x.m x.c := told_is _ (htold 7 (by decide)) rfl
  have t8 : vs 8 = .int .i64 x.m := told_is _ (htold 8 (by decide)) rfl
  have t9 : vs 9 = .slice (some ⟨g, 0, none⟩) x.m cap := told_is _ (htold 9 (by decide)) rfl
  have t10 : vs 10 = .tuple #[.int .i64 (psend N.pl x.a x.b x.bs).2.1, .int .i64 (psend N.pl x.a x.b x.bs).2.2] := told_is _ (htold 10 (by decide)) rfl
  have t11 : vs 11 = .tuple #[.int .i64 (psend N.pl x.a x.b x.bs).2.1, .int .i64 (psend N.pl x.a x.b x.bs).2.2] := told_is _ (htold 11 (by decide)) rfl
  have t12 : vs 12 = .int .i64 (psend N.pl x.a x.b x.bs).2.1 := told_is _ (htold 12 (by decide)) rfl
  have t13 : vs 13 = .int .i64 (psend N.pl x.a x.b x.bs).2.2 := told_is _ (htold 13 (by decide)) rfl
  have t14 : vs 14 = .int .i64 (psend N.pl x.a x.b x.bs).2.1 := told_is _ (htold 14 (by decide)) rfl
  have t15 : vs 15 = .int .i64 (psend N.pl x.a x.b x.bs).2.2 := told_is _ (htold 15 (by decide)) rfl
  rw [show (List.range 16).map vs = [vs 0, vs 1, vs 2, vs 3, vs 4, vs 5, vs 6, vs 7, vs 8, vs 9, vs 10, vs 11, vs 12, vs 13, vs 14, vs 15] from rfl]
  simp only [t0, t1, t2, t3, t4, t5, t6, t7, t8, t9, t10, t11, t12, t13, t14, t15, putAll, Act.put, List.setIfInBounds_toArray, List.set_cons_succ, List.set_cons_zero]
  clear t0 t1 t2 t3 t4 t5 t6 t7 t8 t9 t10 t11 t12 t13 t14 t15 htold
  obtain ⟨w0, v1, N1, hk0, hm, hnw⟩ := hJ.2 (hl 10 (by decide))
  have HK0 := hide hk0
  have HM := hide hm
  have HNW := hide hnw
  have HPW := hide ((unhide HP4).kept0 hk0)
  have HX9 := hide (box_mut (unhide HPW).net hm ((unhide HX5).kept hk0 (by simp)) (by decide) (by decide))
  have HB9' := hide (box_mut (unhide HPW).net hm ((unhide HB9).kept hk0 (by simp)) (by decide) (by decide))
  have HR9 := hide ((unhide HPW).ref.mut (unhide HPW).net hm)
  have HXO := hide (((unhide HX4).kept hk0 (by simp)).kept hm.k (fun i hi => unhide HB i (List.mem_cons_of_mem _ hi)))
  have HGL := hide (unhide HB9).lt
  clear hJ hl hk0 hm hnw P16 HX5 HB9
  have hx1 := fits_cell (unhide HX9) 1 (.int .i64 x.a) rfl
  have hx2 := fits_cell (unhide HX9) 2 (.int .i64 x.b) rfl
  have hx4 := fits_cell (unhide HX9) 4 (.slice x.ao x.m x.c) rfl
  go_wp2_with (
    first
    | (go_at_call 27
       refine (p27 r lv R x.a x.b x.ao x.m x.c x.bs _ (unhide HR9) (unhide HXO).vals (unhide HXO).nil (unhide HXO).byte (fun hne h off e => by have h1 := (unhide HXO).old hne h off e; have h2 := unhide HB r (by simp); omega) ((unhide HPW).la (unhide HLA))).mono ?_
       clear hx1 hx2 hx4
       rintro e V5 ⟨lv1, R1, rfl, hu, hnr⟩
       rw [← (unhide HPW).pl]
       have HU := hide hu
       have HNR := hide hnr
       replace HX9 := hide (box_rut (unhide HR9) hu (unhide HX9) (by decide))
       replace HB9' := hide (box_rut (unhide HR9) hu (unhide HB9') (by decide))
       replace HXO := hide ((unhide HXO).kept hu.k (fun i hi => unhide HB i (by simp at hi; simp [hi])))
       have hx4 := fits_cell (unhide HX9) 4 (.slice x.ao x.m x.c) rfl
       clear hu hnr
       refine Stp.go ?_))
  constructor
  have HROW : Hid (RowAt V5 (.slice (some ⟨g, 0, none⟩) (x.m + 1) cap) (x.bs ++ [119])) := vals_rowAt ⟨by rw [u8s_len]; have h2 := (unhide HX4).vals.len; rw [u8s_len] at h2; simp; omega, unhide HCL, fun _ => ⟨g, 0, rfl, (unhide HB9').rangeIn (o := 0) _ (fun i hi => by rw [Nat.zero_add, List.getElem?_append_left hi])⟩⟩
  go_wp2_with (
    first
    | (refine wpConv34 (by rfl) (.tmp 63) (by rfl) (.slice (some ⟨g, 0, none⟩) (x.m + 1) cap) (x.bs ++ [119]) (by kernel_rfl) (unhide HROW) ?_
       refine Stp.go ?_))
  constructor
  go_wp2_with (
    first
    | (refine wpConv34 (by rfl) (.tmp 66) (by rfl) (.slice x.ao x.m x.c) x.bs (by kernel_rfl) (vals_rowAt (unhide HXO).vals) ?_
       refine Stp.go ?_))
  constructor
  go_wp2_with (
    first
    | (refine wpAddS (by rfl) (.tmp 67) (.const (.string ⟨#[119]⟩)) (by rfl) (strOfNums x.bs) ⟨#[119]⟩ (strOfNums (x.bs ++ [119])) (by rw [str_size]; have h1 := (unhide HX4).big; have h2 := (unhide HX4).vals.len; rw [u8s_len] at h2; show x.bs.length + 1 ≤ _; omega) (str_w _) (by kernel_rfl) (by rfl) ?_
       refine Stp.go ?_))
  constructor
  go_wp2_with (
    first
    | (refine wpEqlSS (by rfl) (.tmp 64) (.tmp 68) (by rfl) (strOfNums (x.bs ++ [119])) (by kernel_rfl) (by kernel_rfl) ?_
       refine Stp.go ?_))
  constructor
  go_wp2_with fail
  have HBIG := hide (unhide HX4).big
  have hbig := (unhide HX4).big
  clear hx4
  go_loopw [15] (fun i wr => ∃ (j : Nat) (us : List Value), j ≤ x.m + 1 ∧ i = .int .i64 j ∧ Hid (us.length = cap) ∧ Hid (Blk wr g 5 us) ∧ Hid (Kept [g] V5 wr)) (fun i _ => x.m + 1 - (intOf i).toNat)
  case atStart => exact ⟨0, _, by omega, rfl, HCE, HB9', hide (Kept.refl _ _)⟩
  case round =>
    obtain ⟨j, us, hj, rfl, HUL, HBr, HKr⟩ := hrel
    by_cases hlt : j < x.m + 1
    · have hltI : (j : Int) < (x.m : Int) + 1 := by omega
      go_wp2_with (
        first
        | (refine wpStoreV (T := 5) (b := g) (i := j) (v := .int .u8 102) (by rfl) (.tmp 78) (.const (.int .u8 102)) (by rfl) (by rfl) (by kernel_rfl) (by rfl) 5 us (unhide HBr) (st5 _ _ _ _ _ _ (unhide HBr) (by have h1 := unhide HUL; have h2 := unhide HCL; omega)) ?_
           intro V7 B7 K7
           have HB7 := hide B7
           have HK7 := hide K7
           clear B7 K7
           refine Stp.go ?_))
      constructor
      go_wp2_with fail
      go_roundw
      case rel => exact ⟨j + 1, _, by omega, by go_num, by show (us.set j _).length = cap; rw [List.length_set]; exact unhide HUL, HB7, hide ((unhide HKr).trans (unhide HK7))⟩
      case measure => simp [intOf]; omega
    · have hnI : ¬ (j : Int) < (x.m : Int) + 1 := by omega
      go_wp2_with (
        first
        | (go_at_call 9
           refine (st_num9 _ _).mono ?_
           rintro e w' ⟨rfl, hw9⟩
           obtain rfl := hw9.symm
           clear hw9
           refine Stp.go ?_))
      constructor
      go_wp2_with fail
      have hRut : Rut w9 V5 r lv1 R1 (psend N.pl x.a x.b x.bs).1 := by rw [(unhide HPW).pl]; exact unhide HU
      have hs1 : V4.heap.size ≤ w0.heap.size := (unhide HK0).size
      have hs2 : w0.heap.size ≤ w9.heap.size := (unhide HM).k.size
      have hs3 : V1.heap.size ≤ g := unhide HG9
      have hs4 : g < V4.heap.size := unhide HGL
      have hs5 : w.heap.size ≤ V1.heap.size := unhide HS1
      have hD : Dn w V5 b mb v N r b mb v1 N1 lv1 R1 := Dn.both (unhide HPW) ((unhide HK).trans (unhide HK0)) (unhide HM) hRut (Kept.refl _ _) (psend_last _ _ _ _) (psend_nodes _ _ _ _)
      refine bodyPost_ret (res12 _ _ _ _ _ rfl rfl rfl) rfl ⟨b, mb, v1, N1, lv1, R1, by simp, hD.spoil (unhide HB9') (fun l hl e => ?_) (fun l hl e => ?_) (by omega) (unhide HKr)⟩
      · rcases unhide HNW l hl with h | h
        · have := body_old (unhide HP).net.body h e; omega
        · have := h g e; omega
      · rcases unhide HNR l hl with h | h
        · have := body_old (unhide HP).ref.body h e; omega
        · have := h g e; omega

end Go.Proofs.Ytpcggcicpojdoaa

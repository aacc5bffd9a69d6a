/-
  standing, walked.
-/
import Derived.Test.YtmeajhdhiebkdaaDoorLk
namespace Go.Proofs.YtmeajhdhiebkdaaDoor
set_option maxRecDepth 100000
open Go.RowKit Go.Shelf
attribute [local go_sem] Oper.semAt_some

section
variable {ops : Array Oper} {rest : List Oper} {op : Oper} {a : Act} {w : World} {Q : Exit → Act → World → Prop}
theorem wpLoadW {T n : Nat} (hT : Row T n) (hw : Region.wanted op (yielded ops a.tmps) = true) (x : Operand) (ho : op.op = .load T x) (b o : Nat) (hx : a.eval x = .pointer (some ⟨b, o, none⟩)) (vs : List Value) (hl : vs.length = n) (hA : w.rangeAt b o vs)
    (h : wpList Tryd.prog ops Q rest (a.put op.dst (aggV vs)) w) : wpList Tryd.prog ops Q (op :: rest) a w :=
  BigFrame.wpList_want hw fun _ hK => wp_loadA hT x ho b o hx vs hl hA (hK _ _ h)
theorem wpBsR (hgd : op.guard = none) (x : Operand) (ho : op.op = .buildSlice 37 1 #[(0, x)]) (vs : List Value) (hl : vs.length = 101) (hx : a.eval x = aggV vs)
    (h : ∀ W g, g = w.heap.size → Blk W g 45 vs → Kept [] w W → wpList Tryd.prog ops Q rest (a.put op.dst (.slice (some ⟨g, 0, none⟩) 1 1)) W) : wpList Tryd.prog ops Q (op :: rest) a w :=
  wpList_plain hgd fun _ hK => o_bsR x ho vs hl hx (hK _ _ (h _ _ rfl (Blk.new w 45 vs) ((Kept.refl _ _).alloc _)))
theorem wpAppO (hgd : op.guard = none) (s x : Operand) (ho : op.op = .call { callee := .builtin .append, args := #[s, x], argTypes := #[37, 37] }) (v : Value) (n : Nat) (xs : List Value) (hs : a.eval s = v) (hO : OwnO w v n xs) (p : Nat) (news : List Value) (hx : a.eval x = .slice (some ⟨p, 0, none⟩) 1 1) (hB : Blk w p 45 news) (hl : news.length = 101) (hone : ∀ u ∈ news, u.oneCell' = true) (hn : n ≤ 1000)
    (h : ∀ v' w', OwnO w' v' (n + 1) (xs ++ news) → Kept v.ownBlock.toList w w' → (∀ k, v'.ownBlock = some k → v.ownBlock = some k ∨ w.heap.size ≤ k) → wpList Tryd.prog ops Q rest (a.put op.dst v') w') : wpList Tryd.prog ops Q (op :: rest) a w :=
  wpList_plain hgd fun _ hK => o_appO s x ho v n xs hs hO p news hx hB hl hone hn (fun v' w' h1 h2 h3 => hK _ _ (h v' w' h1 h2 h3))
theorem wpSt37 (hgd : op.guard = none) (x y : Operand) (ho : op.op = .store 37 x y) (hd : op.dst = none) (b i TT : Nat) (us : List Value) (v : Value) (hx : a.eval x = .pointer (some ⟨b, i, none⟩)) (hy : a.eval y = v) (hv : ∃ ao m c, v = .slice ao m c) (hB : Blk w b TT us) (hi : i < us.length)
    (h : ∀ W, Blk W b TT (us.set i v) → Kept [b] w W → wpList Tryd.prog ops Q rest (a.put op.dst undef) W) : wpList Tryd.prog ops Q (op :: rest) a w :=
  wpList_plain hgd fun _ hK => o_st37 x y ho hd b i TT us v hx hy hv hB hi (fun W h1 h2 => hK _ _ (h W h1 h2))
end
theorem blk_ne {W : World} {a b T U : Nat} {us vs : List Value} (h1 : Blk W a T us) (h2 : Blk W b U vs) (h : T ≠ U) : a ≠ b := by
  rintro rfl
  unfold Blk at h1 h2
  rw [h1] at h2
  injection h2 with h2
  injection h2 with _ h2
  exact h h2
theorem laidF_len (D : Dv.Dev) (J : Ar.Job) (nd : Int) : ∀ (m : Nat) (s : Int), (laidF D J nd s m).length ≤ m
  | 0, _ => by simp [laidF]
  | m + 1, s => by
    unfold laidF
    split
    · have := laidF_len D J nd m (s + 1)
      simp only [List.length_cons]
      omega
    · simp
theorem laidS_len (D : Dv.Dev) (J : Ar.Job) (nd st : Int) (h : J.may = true) : (laidS D J nd st).length ≤ 1000 := by
  have h1 := laidF_len D J nd (laidN J st) st
  simp only [Ar.Job.may, decide_eq_true_eq] at h
  have h2 : laidN J st ≤ 64 := by unfold laidN; omega
  unfold laidS
  omega
theorem blk_own {W W7 W8 : World} {t9 n : Nat} {u : Value} {xs : List Value} (h1 : Blk W t9 37 [u]) (h2 : OwnO W u n xs) (h3 : Kept [] W W7) (h4 : Kept u.ownBlock.toList W7 W8) : Blk W8 t9 37 [u] := by
  refine (h1.kept h3 (by simp)).kept h4 ?_
  rw [Option.mem_toList]
  intro e
  obtain ⟨cs, hc⟩ := h2.block t9 e
  unfold Blk at h1
  rw [hc] at h1
  injection h1 with h1
  injection h1 with _ h1
  exact absurd h1 (by decide)
/-- What a round that takes a record leaves. -/
theorem st_end {w W W6 W7 W8 : World} {B t5 t9 t10 : Nat} {J : Ar.Job} {pre : List Rc.Rec} {a x : Rc.Rec} {u v7 : Value} (hg9 : w.heap.size ≤ t9) (hg10 : w.heap.size ≤ t10) (h : Si w t5 t9 t10 J pre a W) (h1 : Blk W t9 37 [u]) (h2 : OwnO W u pre.length (cellsR pre)) (h3 : ∀ k, u.ownBlock = some k → w.heap.size ≤ k ∧ k ≠ t10)
    (k6 : Kept [] W W6) (h7 : OwnO W7 v7 (pre.length + 1) (cellsR pre ++ Rc.recC x)) (k7 : Kept u.ownBlock.toList W6 W7) (hv : ∀ k, v7.ownBlock = some k → u.ownBlock = some k ∨ W6.heap.size ≤ k) (hB8 : Blk W8 t9 37 ([u].set 0 v7)) (k8 : Kept [t9] W7 W8) (hxb : Rc.Byts 96 x.bd ∧ Rc.I64 x.ls) :
    (KeepsFrom B W (W8.setCells t10 0 (Rc.recC x)) ∧ KeptJ W (W8.setCells t10 0 (Rc.recC x))) ∧ Si w t5 t9 t10 J (pre ++ [x]) x (W8.setCells t10 0 (Rc.recC x)) := by
  have hne : ∀ k, u.ownBlock = some k → k ≠ t10 := fun k hk => (h3 k hk).2
  have hn9 : t10 ≠ t9 := blk_ne h.ah h1 (by decide)
  have hn5 : t5 ≠ t9 := blk_ne h.j h1 (by decide)
  have hn510 : t5 ≠ t10 := blk_ne h.j h.ah (by decide)
  have ho : ∀ k, u.ownBlock = some k → k ≠ t9 ∧ k ≠ t5 := by
    intro k hk
    obtain ⟨cs, hc⟩ := h2.block k hk
    refine ⟨?_, ?_⟩
    · rintro rfl
      unfold Blk at h1
      rw [hc] at h1
      injection h1 with h1
      injection h1 with _ h1
      exact absurd h1 (by decide)
    · rintro rfl
      have hj := h.j
      unfold Blk at hj
      rw [hc] at hj
      injection hj with hj
      injection hj with _ hj
      exact absurd hj (by decide)
  have h10 : Blk W8 t10 45 (Rc.recC a) := ((h.ah.kept k6 (by simp)).kept k7 (by rw [Option.mem_toList]; intro e; exact hne t10 e rfl)).kept k8 (by simpa using hn9)
  have h5 : Blk W8 t5 23 (Ar.jobC J) := ((h.j.kept k6 (by simp)).kept k7 (by rw [Option.mem_toList]; intro e; exact (ho t5 e).2 rfl)).kept k8 (by simpa using hn5)
  have k9 : Kept [t10] W8 (W8.setCells t10 0 (Rc.recC x)) := (Kept.refl _ _).setCells _ _ (by simp)
  have hs : t10 < W.heap.size := h.ah.lt
  have hsz := k6.size
  have hv7 : ∀ k, v7.ownBlock = some k → k ≠ t10 ∧ k ≠ t9 ∧ w.heap.size ≤ k := by
    intro k hk
    have h9 := h1.lt
    rcases hv k hk with e | e
    · exact ⟨hne k e, (ho k e).1, (h3 k e).1⟩
    · have := h.k.size
      exact ⟨by omega, by omega, by omega⟩
  have kall : Kept (t10 :: t9 :: u.ownBlock.toList) W (W8.setCells t10 0 (Rc.recC x)) := ((k6.mono (by simp)).trans (k7.mono (fun k hk => by simp [hk]))).trans ((k8.mono (by simp)).trans (k9.mono (by simp)))
  have hc : ∀ k ∈ t10 :: t9 :: u.ownBlock.toList, ∃ cs T p, W.heap[k]? = some (Obj.cells cs T p) ∧ (T = 37 ∨ T = 45) ∧ w.heap.size ≤ k := by
    intro k hm
    simp only [List.mem_cons, Option.mem_toList] at hm
    rcases hm with rfl | rfl | hm
    · exact ⟨_, _, _, h.ah, .inr rfl, hg10⟩
    · exact ⟨_, _, _, h1, .inl rfl, hg9⟩
    · obtain ⟨cs, hc⟩ := h2.block k hm
      exact ⟨_, _, _, hc, .inr rfl, (h3 k hm).1⟩
  refine ⟨⟨keepsFrom_X kall (fun k hm => by obtain ⟨cs, T, p, e, _⟩ := hc k hm; exact ⟨cs, T, p, e⟩), (KeptJ.refl W).keptX kall (fun k hm cs T p e => by obtain ⟨cs', T', p', e', g1, _⟩ := hc k hm; rw [e'] at e; cases e; exact g1)⟩, ⟨⟨v7, hB8.kept k9 (by simpa using fun e => hn9 e.symm), ?_, fun k hk => ⟨(hv7 k hk).2.2, (hv7 k hk).1⟩⟩, ?_, h5.kept k9 (by simpa using hn510), h.k.fresh kall (fun k hm hl => by obtain ⟨_, _, _, _, _, g⟩ := hc k hm; omega), hxb⟩⟩
  · rw [List.length_append, cellsR_app]
    exact (h7.kept k8 (fun k hk => by simpa using (hv7 k hk).2.1)).kept k9 (fun k hk => by simpa using (hv7 k hk).1)
  · exact h10.put (by rw [recC_len hxb.1, recC_len h.ab.1])
set_option maxHeartbeats 8000000 in
theorem standing_in (b g : Nat) (D : Dv.Dev) (J : Ar.Job) (nd st ep : Int) (w : World) (hD : Dv.Dv w b g D) (hmay : J.may = true) (hnd : 0 ≤ nd ∧ nd < J.n) (hst : 1 ≤ st ∧ st ≤ 2147483647) :
    CallsIn Fence.wide 3 Tryd.prog 58 #[P0 b, aggV (Ar.jobC J), .int .i64 nd, aggV (Rc.hdC st ep)] w fun e w' => ∃ u, e = .returned u ∧ OwnO w' u (standS D J nd st ep).length (cellsR (standS D J nd st ep)) ∧ (∀ k, u.ownBlock = some k → w.heap.size ≤ k) ∧ Kept [] w w' := by
  have hFw := wideF
  have HD := hide hD
  have HJL : Hid ((Ar.jobC J).length = 5) := rfl
  have HM := hide hmay
  have HND := hide hnd
  have HST := hide hst
  have hst1 := hst.1
  have hst2 := hst.2
  have HK := hide (Kept.refl [] w)
  have HRL : Hid ((Rc.recC (ahead0 nd ep st)).length = 101) := recC_len (r := ahead0 nd ep st) (Rc.zs_byts 96)
  clear hD hmay hnd hst
  refine callsIn_of_wp_marks Tryd.func58 rfl trivial ?_ rfl
  simp only [Tryd.ntmps58, List.size_toArray, List.length_cons, List.length_nil, Nat.reduceAdd, Nat.reduceSub, Array.replicate_succ, Array.replicate_zero, List.push_toArray, List.append_toArray, List.nil_append, List.cons_append]
  rw [wpIn_wide]
  go_wp2_with (
    first
    | (refine wpBoxV (by rfl) (.tmp 1) (by rfl) (Ar.jobC J) (by kernel_rfl) ?_
       intro W1 t5 e5 B5 K5
       have H5 := hide B5
       have N5 : Hid (w.heap.size ≤ t5) := by rw [e5]; exact (unhide HK).size
       replace HK := hide ((unhide HK).trans K5)
       clear e5 B5 K5
       refine Stp.go ?_))
  constructor
  go_wp2_with (
    first
    | (refine wpBoxV (by rfl) (.tmp 3) (by rfl) (Rc.hdC st ep) (by kernel_rfl) ?_
       intro W2 t7 e7 B7 K7
       have H7 := hide B7
       replace H5 := hide ((unhide H5).kept K7 (by simp))
       replace HK := hide ((unhide HK).trans K7)
       clear e7 B7 K7
       refine Stp.go ?_))
  constructor
  go_wp2_with fail
  go_step3
  go_wp2_with (
    first
    | (refine wpAllocW [.slice none 0 0] alloc37 9 (by rfl) (by rfl) (by rfl) ?_
       intro W3 t9 e9 B9 K9
       have H9 := hide B9
       have N9 : Hid (w.heap.size ≤ t9) := by rw [e9]; exact (unhide HK).size
       replace H5 := hide ((unhide H5).kept K9 (by simp))
       replace H7 := hide ((unhide H7).kept K9 (by simp))
       replace HK := hide ((unhide HK).trans K9)
       have hh0 := fits_cell (unhide H7) 0 (.int .i64 st) rfl
       have hh1 := fits_cell (unhide H7) 1 (.int .i64 ep) rfl
       clear e9 B9 K9
       refine Stp.go ?_))
  constructor
  go_wp2_with (
    first
    | (refine wpBuildP (by rfl) _ (by rfl) #[(0, .int .i64 nd), (1, .int .i64 ep), (2, .int .i64 (st - 1))] (by simp only [List.map_toArray, List.map_cons, List.map_nil]; rfl) (Rc.recC (ahead0 nd ep st)) (build45h _ _ _ _) ?_
       refine Stp.go ?_))
  constructor
  go_wp2_with (
    first
    | (refine wpNew row45 (Rc.recC Rc.zrec) (recC_len (r := Rc.zrec) (Rc.zs_byts 96)) (fun w => Rc.zero25 w) 10 (by rfl) (by rfl) (by rfl) (.tmp 18) (by rfl) (by rfl) (by rfl) (Rc.recC (ahead0 nd ep st)) (unhide HRL) (recC_one _) (by kernel_rfl) (by kernel_rfl) ?_
       intro W4 t10 e10 B10 K10
       have H10 := hide B10
       have N10 : Hid (w.heap.size ≤ t10) := by rw [e10]; exact (unhide HK).size
       replace H5 := hide ((unhide H5).kept K10 (by simp))
       replace H7 := hide ((unhide H7).kept K10 (by simp))
       replace H9 := hide ((unhide H9).kept K10 (by simp))
       replace HK := hide ((unhide HK).trans K10)
       clear hh0 hh1
       have hh0 := fits_cell (unhide H7) 0 (.int .i64 st) rfl
       clear e10 B10 K10
       refine Stp.go ?_))
  constructor
  go_wp2_with fail
  go_step3
  go_wp2_with (
    first
    | (refine wpLoadA row23 (by rfl) (.tmp 5) (by rfl) t5 0 (by kernel_rfl) (Ar.jobC J) (unhide HJL) (unhide H5).range ?_
       refine Stp.go ?_))
  constructor
  go_wp2_with (
    first
    | (go_at_call 82
       refine (laid82 b J nd st _).mono ?_
       rintro e W5 ⟨p1, p2, p3, p4, rfl, hlv, K5⟩
       have HLV := hide hlv
       replace H5 := hide ((unhide H5).kept K5 (by simp))
       replace H9 := hide ((unhide H9).kept K5 (by simp))
       replace H10 := hide ((unhide H10).kept K5 (by simp))
       replace HK := hide ((unhide HK).trans K5)
       clear hlv K5 hh0 H7))
  rw [← wpIn_wide (n := 3)]
  obtain ⟨S, hS⟩ : ∃ S, S = laidS D J nd st := ⟨_, rfl⟩
  obtain ⟨R, hR⟩ : ∃ R, R = standF J.p (ahead0 nd ep st) S := ⟨_, rfl⟩
  have hRe : standS D J nd st ep = R := by rw [hR, hS]; rfl
  have HRE := hide hRe
  clear hRe
  have HW5 := hide (unhide HK).size
  have hg5 : w.heap.size ≤ t5 := unhide N5
  have hg9 : w.heap.size ≤ t9 := unhide N9
  have hg10 : w.heap.size ≤ t10 := unhide N10
  have hSb : ∀ r ∈ S, r.Ok := by rw [hS]; exact laidF_ok (unhide HD).ok J nd _ _
  have HLE : Hid (S.length ≤ 1000) := by
    show _ ≤ _
    rw [hS]
    exact laidS_len D J nd st (unhide HM)
  have S0 : Si w t5 t9 t10 J [] (ahead0 nd ep st) W5 := ⟨⟨_, unhide H9, OwnO.nil _, fun k e => by cases e⟩, unhide H10, unhide H5, unhide HK, Rc.zs_byts 96, by show Rc.I64 (st - 1); unfold Rc.I64; omega⟩
  refine wp_rangeL p1 p2 p3 p4 b g D J nd st S hS rfl rfl ((unhide HD).kept (unhide HK) (by simp) (by simp)) (unhide HLV) (unhide HM) (unhide HND) (unhide HST)
    (fun pre W => Si w t5 t9 t10 J pre (lastR (ahead0 nd ep st) pre) W ∧ R = pre ++ standF J.p (lastR (ahead0 nd ep st) pre) (S.drop pre.length))
    (fun cd _ W => cd = .exit 0 ∧ ∃ a, Si w t5 t9 t10 J R a W) ?hI ?hIx ⟨S0, by rw [hR]; rfl⟩
    (fun k x a' W => Si w t5 t9 t10 J (S.take k) (lastR (ahead0 nd ep st) (S.take k)) W ∧ R = S.take k ++ standF J.p (lastR (ahead0 nd ep st) (S.take k)) (S.drop k) ∧ ∃ bx, Blk W bx 45 (Rc.recC x) ∧ (bx ≠ t10 ∧ ∃ u, Blk W t9 37 [u] ∧ ∀ k, u.ownBlock = some k → k ≠ bx) ∧ a' = { tmps := #[P0 b, aggV (Ar.jobC J), .int .i64 nd, aggV (Rc.hdC st ep), undef, P0 t5, undef, P0 t7, .slice none 0 0, P0 t9, P0 t10, P0 bx, .int .i64 nd, .pointer (some ⟨t7, 1, none⟩), .int .i64 ep, .pointer (some ⟨t7, 0, none⟩), .int .i64 st, .int .i64 (st - 1), aggV (Rc.recC (ahead0 nd ep st)), P0 b, aggV (Ar.jobC J), .int .i64 nd, .pointer (some ⟨t7, 0, none⟩), .int .i64 st, lvV p1 p2 p3 p4, aggV (Rc.recC x), undef, undef, undef, undef, undef, undef, undef, undef, undef, undef, undef, undef, undef, undef, undef, undef, undef], defers := [] }) ?hFr ?assign ?body ?done ?stop
  case hI =>
    intro s A B row hs hg hr
    exact ⟨hs.1.grown hg (unhide HW5) hr, hs.2⟩
  case hIx =>
    intro c s A B row hs hg hr
    obtain ⟨h1, a, h2⟩ := hs
    exact ⟨h1, a, h2.grown hg (unhide HW5) hr⟩
  case hFr =>
    intro k x a' s A B row hs hg hr
    obtain ⟨h1, h2, bx, h3, ⟨h5, u, h6, h7⟩, h4⟩ := hs
    exact ⟨h1.grown hg (unhide HW5) hr, h2, bx, blk_grown h3 hg (fun r e => (hr r e).2), ⟨h5, u, blk_grown h6 hg (fun r e => (hr r e).2), h7⟩, h4⟩
  case assign =>
    intro l k x W K hI hx hK
    have hrl := recC_len (hSb x (List.mem_of_getElem? hx)).bd
    simp only [List.zip_toArray, List.zip_cons_cons, List.zip_nil_right, List.foldl_toArray, List.foldl_cons, List.foldl_nil, List.setIfInBounds_toArray, List.set_cons_succ, List.set_cons_zero]
    gi_wp2_with (
      first
      | (refine inNew row45 (Rc.recC Rc.zrec) (recC_len (r := Rc.zrec) (Rc.zs_byts 96)) (fun w => Rc.zero25 w) 11 (by rfl) (fun _ => trivial) (by rfl) (by rfl) (by rfl) (.tmp 25) (by rfl) (by rfl) (fun _ => by rfl) (by rfl) (Rc.recC x) hrl (recC_one x) (by rfl) (by rfl) ?_
         intro W9 bx ex BX KX
         have HBX := hide BX
         have HKX := hide KX
         have HEX : Hid (bx = W.heap.size) := ex
         clear ex BX KX))
    have hlen : (S.take k).length = k := by rw [List.length_take]; have := (List.getElem?_eq_some_iff.1 hx).1; omega
    have h2 := hI.2
    rw [hlen] at h2
    have hbe := unhide HEX
    obtain ⟨u, hu1, hu2, hu3⟩ := hI.1.row
    exact hK _ _ (unhide HKX) ⟨hI.1.kept (unhide HKX), h2, bx, unhide HBX, ⟨by have := hI.1.ah.lt; omega, u, hu1.kept (unhide HKX) (by simp), fun k hk => by obtain ⟨cs, hc⟩ := hu2.block k hk; have := lt_of_block hc; omega⟩, rfl⟩
  case body =>
    rintro l k x a' W hx ⟨hSi, hRe, bx, hbx, ⟨hb10, u', hu', hub⟩, rfl⟩
    have hxo := hSb x (List.mem_of_getElem? hx)
    have hstep := standF_step (P := J.p) (a0 := ahead0 nd ep st) (pre := S.take k) (by rw [← hR]; exact hRe) hx
    rw [← hR] at hstep
    obtain ⟨a, ha⟩ : ∃ a, a = lastR (ahead0 nd ep st) (S.take k) := ⟨_, rfl⟩
    rw [← ha] at hSi hstep
    obtain ⟨u, hu1, hu2, hu3⟩ := hSi.row
    obtain rfl : u' = u := by
      have h9 := fits_cell hu' 0 _ rfl
      rw [fits_cell hu1 0 _ rfl] at h9
      exact (Option.some.inj h9).symm
    have hcp := fits_cell hbx 3 (.int .i64 x.pg) rfl
    have hcj := fits_cell hSi.j 1 (.int .i64 J.p) rfl
    have HSI := hide hSi
    have HST2 := hide hstep
    by_cases hpg : J.p ≤ x.pg
    · clear hstep hRe hSi hu1 hu2 hu3 ha hu' hub
      gi_wp2_with fail
      refine ⟨keepsFrom_of_kept (Kept.refl _ _), rfl, a, ?_⟩
      rw [(unhide HST2).2 (by simp [hpg])]
      exact unhide HSI
    · have HBX := hide hbx
      have HAL := hide (recC_len hSi.ab.1)
      have HXL := hide (recC_len hxo.bd)
      have HXO : Hid (Rc.Byts 96 x.bd ∧ Rc.I64 x.ls) := ⟨hxo.bd, hxo.ls⟩
      have P83 := hide (fun W' => fol83 a x hSi.ab.2 hxo.ls W')
      obtain ⟨fo, hfo⟩ : ∃ fo, fo = Rc.folB a x := ⟨_, rfl⟩
      rw [← hfo] at P83
      have HUB := hide hub
      have HU1 := hide hu1
      have HU2 := hide hu2
      have HU3 := hide hu3
      have HLN : Hid ((S.take k).length = k ∧ k ≤ 1000) := by
        have h8 := (List.getElem?_eq_some_iff.1 hx).1
        have h9 := unhide HLE
        exact ⟨by rw [List.length_take]; omega, by omega⟩
      have HTK : Hid (S.take (k + 1) = S.take k ++ [x]) := by
        show _ = _
        rw [List.take_add_one, hx]
        rfl
      have HLR : Hid (lastR (ahead0 nd ep st) (S.take k ++ [x]) = x) := by
        show _ = _
        simp [lastR]
      have hc0 := fits_cell hu1 0 _ rfl
      have HFO : Hid (fo = Rc.folB a x) := hfo
      clear hstep hRe hSi hu1 hu2 hu3 ha hbx hxo hx hfo hu' hub
      have hpg2 : decide (J.p ≤ x.pg) = false := by simp [hpg]
      clear hpg
      cases fo with
      | false =>
        gi_wp2_with (
          first
          | (refine listIn_of_list (by rintro ⟨a, w, h⟩; exact h) _ _ _ (noDefer_spec (by kernel_rfl)) ?_
             refine Stp.go ?_))
        constructor
        go_wp2_with (
          first
          | (refine wpLoadW row45 (by rfl) (.tmp 10) (by rfl) t10 0 (by kernel_rfl) (Rc.recC a) (unhide HAL) (unhide HSI).ah.range ?_
             refine Stp.go ?_))
        constructor
        go_wp2_with (
          first
          | (refine wpLoadW row45 (by rfl) (.tmp 11) (by rfl) bx 0 (by kernel_rfl) (Rc.recC x) (unhide HXL) (unhide HBX).range ?_
             refine Stp.go ?_))
        constructor
        go_wp2_with (
          first
          | (go_at_call 83
             refine (unhide P83 _).mono ?_
             rintro e W6 ⟨rfl, K6⟩
             have HK6 := hide K6
             have hc6 := K6.cell hc0 (by simp)
             clear K6 hc0))
        gi_wp2_with fail
        refine ⟨keepsFrom_of_kept (unhide HK6), rfl, a, ?_⟩
        rw [(unhide HST2).2 (by rw [← unhide HFO]; simp)]
        exact (unhide HSI).kept (unhide HK6)
      | true =>
        gi_wp2_with (
          first
          | (refine listIn_of_list (by rintro ⟨a, w, h⟩; exact h) _ _ _ (noDefer_spec (by kernel_rfl)) ?_
             refine Stp.go ?_))
        constructor
        go_wp2_with (
          first
          | (refine wpLoadW row45 (by rfl) (.tmp 10) (by rfl) t10 0 (by kernel_rfl) (Rc.recC a) (unhide HAL) (unhide HSI).ah.range ?_
             refine Stp.go ?_))
        constructor
        go_wp2_with (
          first
          | (refine wpLoadW row45 (by rfl) (.tmp 11) (by rfl) bx 0 (by kernel_rfl) (Rc.recC x) (unhide HXL) (unhide HBX).range ?_
             refine Stp.go ?_))
        constructor
        go_wp2_with (
          first
          | (go_at_call 83
             refine (unhide P83 _).mono ?_
             rintro e W6 ⟨rfl, K6⟩
             have HK6 := hide K6
             have hc6 := K6.cell hc0 (by simp)
             clear K6 hc0))
        gi_wp2_with (
          first
          | (refine listIn_of_list (by rintro ⟨a, w, h⟩; exact h) _ _ _ (noDefer_spec (by kernel_rfl)) ?_
             refine Stp.go ?_))
        constructor
        go_wp2_with (
          first
          | (refine wpLoadA row45 (by rfl) (.tmp 11) (by rfl) bx 0 (by kernel_rfl) (Rc.recC x) (unhide HXL) ((unhide HBX).kept (unhide HK6) (by simp)).range ?_
             refine Stp.go ?_))
        constructor
        go_wp2_with (
          first
          | (refine wpBsR (by rfl) (.tmp 38) (by rfl) (Rc.recC x) (unhide HXL) (by kernel_rfl) ?_
             intro W7 g7 e7 B7 K7
             have HB7 := hide B7
             have HK7 : Hid (Kept [] W W7) := (unhide HK6).trans K7
             clear e7 B7 K7
             refine Stp.go ?_))
        constructor
        go_wp2_with (
          first
          | (at_builtin; refine wpAppO (by rfl) (.tmp 37) (.tmp 39) (by rfl) u' (S.take k).length (cellsR (S.take k)) (by kernel_rfl) ((unhide HU2).kept (unhide HK7) (by simp)) g7 (Rc.recC x) (by kernel_rfl) (unhide HB7) (unhide HXL) (recC_one x) (by have := unhide HLN; omega) ?_
             intro v8 W8 hO8 hk8 hv8
             have HO8 := hide hO8
             have HK8 := hide hk8
             have HV8 := hide hv8
             have HSL8 : Hid (∃ ao m c, v8 = .slice ao m c) := by obtain ⟨ao, c, e, _, _⟩ := hO8.sl; exact ⟨ao, _, c, e⟩
             clear hO8 hk8 hv8
             refine Stp.go ?_))
        constructor
        go_wp2_with (
          first
          | (refine wpSt37 (by rfl) (.tmp 9) (.tmp 40) (by rfl) (by rfl) t9 0 37 [u'] v8 (by kernel_rfl) (by kernel_rfl) (unhide HSL8) (blk_own (unhide HU1) (unhide HU2) (unhide HK7) (unhide HK8)) (by simp) ?_
             intro W9 B9 K9
             have HB9 := hide B9
             have HK9 := hide K9
             clear B9 K9))
        have HE := hide (st_end (B := W5.heap.size) (x := x) hg9 hg10 (unhide HSI) (unhide HU1) (unhide HU2) (unhide HU3) (unhide HK7) (unhide HO8) (unhide HK8) (unhide HV8) (unhide HB9) (unhide HK9) (unhide HXO))
        have HX9 : Hid (Blk W9 bx 45 (Rc.recC x)) := (((unhide HBX).kept (unhide HK7) (by simp)).kept (unhide HK8) (by rw [Option.mem_toList]; intro e; exact unhide HUB bx e rfl)).kept (unhide HK9) (by simpa using blk_ne (unhide HBX) (unhide HU1) (by decide))
        have HT10 : Hid (Blk W9 t10 45 (Rc.recC a)) := (((unhide HSI).ah.kept (unhide HK7) (by simp)).kept (unhide HK8) (by rw [Option.mem_toList]; intro e; exact (unhide HU3 t10 e).2 rfl)).kept (unhide HK9) (by simpa using blk_ne (unhide HSI).ah (unhide HU1) (by decide))
        clear HB9 HK9 HO8 HK8 HV8 HSL8 HB7 HK7 HK6 HBX P83 hc6
        gi_wp2_with (
          first
          | (refine listIn_of_list (by rintro ⟨a, w, h⟩; exact h) _ _ _ (noDefer_spec (by kernel_rfl)) ?_
             refine Stp.go ?_))
        constructor
        go_wp2_with (
          first
          | (refine wpLoadA row45 (by rfl) (.tmp 11) (by rfl) bx 0 (by kernel_rfl) (Rc.recC x) (unhide HXL) (unhide HX9).range ?_
             refine Stp.go ?_))
        constructor
        go_wp2_with (
          first
          | (refine wpStoreA row45 (by rfl) (.tmp 10) (.tmp 41) (by rfl) t10 0 (Rc.recC x) (by kernel_rfl) (by kernel_rfl) (unhide HXL) (recC_one x) ((unhide HT10).there (by rw [unhide HAL]; omega)) ?_))
        obtain ⟨⟨hE1, hE2⟩, hE3⟩ := unhide HE
        refine ⟨hE1, hE2, ?_⟩
        have hlen : (S.take k ++ [x]).length = k + 1 := by rw [List.length_append, (unhide HLN).1]; rfl
        show Si w t5 t9 t10 J (S.take (k + 1)) _ _ ∧ _
        rw [unhide HTK, unhide HLR, hlen]
        refine ⟨hE3, ?_⟩
        have hq := (unhide HST2).1 (by rw [← unhide HFO, hpg2]; simp)
        rw [unhide HLR] at hq
        exact hq
  case done =>
    rintro E W hE hI hK
    obtain ⟨u, hu1, hu2, hu3⟩ := hI.1.row
    have hRS : S = R := by
      have h9 := hI.2
      rw [List.drop_length, standF, List.append_nil] at h9
      exact h9.symm
    rw [hRS] at hu2
    have hc0 := fits_cell hu1 0 _ rfl
    have HU2 := hide hu2
    have HU3 := hide hu3
    have HKK := hide hI.1.k
    have HDK := hide hK
    have HDG : Hid (w.heap.size ≤ E) := by have := unhide HW5; show _ ≤ _; omega
    clear hI hu1 hu2 hu3 hK hRS hR hS hSb
    go_wp2_with fail
    rw [Exit.noGoto_ret]
    have hgr := grownBy_putObj' W E (Obj.deferred none)
    have hnc : ∀ r, some E = some r → ∃ o : Obj, W.heap[r]? = some o ∧ o.isCells = false := fun r e => by cases e; exact ⟨_, unhide HDK, rfl⟩
    refine (show LeavesInM Fence.wide 3 Tryd.prog Tryd.f58 _ _ [{ target := .collected E, args := #[] }] .returning W from ?_)
    refine ⟨by simp, .inl ⟨_, _, rfl, run_takeDeferred (unhide HDK), ?_⟩⟩
    exact ⟨_, results_tmp rfl _ _ _, u, rfl, by rw [unhide HRE]; exact (unhide HU2).grown hgr hnc, fun k hk => (unhide HU3 k hk).1, kept_kept (B := w.heap.size) (unhide HKK) hgr (Nat.le_refl _) (fun r e => by cases e; exact unhide HDG)⟩
  case stop =>
    rintro E c k W hE hk ⟨rfl, a, hSi⟩ hK
    refine wpIn_exit ?_
    obtain ⟨u, hu1, hu2, hu3⟩ := hSi.row
    have hc0 := fits_cell hu1 0 _ rfl
    have HU2 := hide hu2
    have HU3 := hide hu3
    have HKK := hide hSi.k
    have HDK := hide hK
    have HDG : Hid (w.heap.size ≤ E) := by have := unhide HW5; show _ ≤ _; omega
    clear hSi hu1 hu2 hu3 hK hR hS hSb
    go_wp2_with fail
    rw [Exit.noGoto_ret]
    have hgr := grownBy_putObj' W E (Obj.deferred none)
    have hnc : ∀ r, some E = some r → ∃ o : Obj, W.heap[r]? = some o ∧ o.isCells = false := fun r e => by cases e; exact ⟨_, unhide HDK, rfl⟩
    refine (show LeavesInM Fence.wide 3 Tryd.prog Tryd.f58 _ _ [{ target := .collected E, args := #[] }] .returning W from ?_)
    refine ⟨by simp, .inl ⟨_, _, rfl, run_takeDeferred (unhide HDK), ?_⟩⟩
    exact ⟨_, results_tmp rfl _ _ _, u, rfl, by rw [unhide HRE]; exact (unhide HU2).grown hgr hnc, fun k hk => (unhide HU3 k hk).1, kept_kept (B := w.heap.size) (unhide HKK) hgr (Nat.le_refl _) (fun r e => by cases e; exact unhide HDG)⟩
theorem standing58 (b g : Nat) (D : Dv.Dev) (J : Ar.Job) (nd st ep : Int) (w : World) (hD : Dv.Dv w b g D) (hmay : J.may = true) (hnd : 0 ≤ nd ∧ nd < J.n) (hst : 1 ≤ st ∧ st ≤ 2147483647) :
    Calls Tryd.prog 58 #[P0 b, aggV (Ar.jobC J), .int .i64 nd, aggV (Rc.hdC st ep)] w fun e w' => ∃ u, e = .returned u ∧ OwnO w' u (standS D J nd st ep).length (cellsR (standS D J nd st ep)) ∧ (∀ k, u.ownBlock = some k → w.heap.size ≤ k) ∧ Kept [] w w' := callsIn_wide.1 (standing_in b g D J nd st ep w hD hmay hnd hst)

end Go.Proofs.YtmeajhdhiebkdaaDoor

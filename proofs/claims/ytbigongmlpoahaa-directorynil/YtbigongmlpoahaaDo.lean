/-
  A lock's copy.
-/
import Derived.Test.YtbigongmlpoahaaDn
namespace Go.Proofs.Ytbigongmlpoahaa.D
set_option maxRecDepth 100000
set_option linter.unusedSimpArgs false
open Go.RowKit


def zl : List Value := .bool false :: ((⟨0, 0, no8, ze8, no8, 0, 0, 0, 0, no8⟩ : Lo).C (.slice none 0 0)).tail
theorem zero108 (w : World) : (Instr.alloc 108 true (.tuple #[])).run Try.prog w = .ok (P0 w.heap.size) (w.alloc (.cells zl.toArray 108)) := by kernel_rfl
section
variable {o op : Oper} {ops : Array Oper} {rest : List Oper} {a : Act} {w : World} {K : Act → World → Prop} {Q : Exit → Act → World → Prop}
theorem o_allocZ {T : Nat} (vs : List Value) (hr : ∀ w : World, (Instr.alloc T true (.tuple #[])).run Try.prog w = .ok (P0 w.heap.size) (w.alloc (.cells vs.toArray T))) (ho : o.op = .alloc T) (h : ∀ W b, b = w.heap.size → Blk W b T vs → Kept [] w W → K (a.put o.dst (P0 b)) W) : o.wp Try.prog a w K Q := by
  unfold Oper.wp execOp
  simp only [ho, Sem.run_bind, hr, Result.andThen_ok]
  exact h _ _ rfl (Blk.new w T vs) ((Kept.refl _ _).alloc _)
theorem o_stB {T m : Nat} (hT : Row T m) (x y : Operand) (ho : o.op = .store T x y) (b : Nat) (vs us : List Value) (hx : a.eval x = P0 b) (hy : a.eval y = aggV vs) (hl : vs.length = m) (hu : us.length = m) (_ : 0 < m) (h1 : ∀ v ∈ vs, v.oneCell' = true) (hB : Blk w b T us)
    (h : ∀ W, Blk W b T vs → Kept [b] w W → K (a.put o.dst undef) W) : o.wp Try.prog a w K Q := by
  obtain ⟨dd, g1, g2, g3⟩ := hT
  have := run_storeVar_mid (P := Try.prog) w b 0 T vs.toArray (by simpa [hl] using hB.there (by omega)) (by simpa [hl] using g3) (all_oneCell_toArray h1)
  have hy' : a.eval y = .agg vs.toArray := hy
  unfold Oper.wp execOp
  simp only [ho, hx, hy', Instr.storeAt, Instr.sureAddr, Sem.run_bind, Sem.run_pure, Result.andThen_ok, this]
  exact h _ (hB.put (by omega)) ((Kept.refl _ _).setCells _ _ (by simp))
end
theorem capD {W : World} {e z n c : Nat} {ao : Option Addr} {xs : List Value} (h : Rw W e z (.slice ao n c) n xs) : Rw W e z (.slice ao n n) n xs := by
  refine ⟨h.len, ?_⟩
  rcases h.lie with ⟨h1, h2⟩ | ⟨g, off, cap, cur, h1, h2, h3, h4, h5, h6⟩
  · cases h1
    exact .inl ⟨rfl, rfl⟩
  · cases h1
    have hc : n * z ≤ c * z := Nat.mul_le_mul_right _ h3
    exact .inr ⟨g, off, n, cur, rfl, h2, Nat.le_refl _, by omega, by omega, h6⟩
theorem LoC_one {s : Lo} {ln : Value} (h : ln.oneCell' = true) : ∀ v ∈ s.C ln, v.oneCell' = true := by
  intro v hv
  simp only [Lo.C, List.mem_cons, List.mem_nil_iff, or_false] at hv
  rcases hv with rfl | rfl | rfl | rfl | rfl | rfl | rfl | rfl | rfl | rfl | rfl | rfl | rfl | rfl | rfl | rfl | rfl | rfl | rfl | rfl | rfl | rfl | rfl | rfl | rfl | rfl | rfl | rfl | rfl | rfl | rfl | rfl | rfl | rfl | rfl | rfl | rfl | rfl | rfl | rfl <;> first | rfl | assumption
/-- What the copy's region keeps. -/
@[reducible] def SC (w : World) (cs : List Value) (d : Nat → Bool) (vs : Nat → Value) (W : World) : Prop :=
  Kept [] w W ∧ (d 8 = true → ∃ g, vs 8 = P0 g ∧ w.heap.size ≤ g ∧ Blk W g 108 (if d 9 = true then cs else zl))
theorem SC.loc {w : World} {cs : List Value} : ∀ d d' vs vs' W, (∀ i ∈ [8, 9], d i = d' i ∧ vs i = vs' i) → SC w cs d vs W → SC w cs d' vs' W := by
  intro d d' vs vs' W H h
  obtain ⟨e0, e1⟩ := H 8 (by simp)
  obtain ⟨e2, e3⟩ := H 9 (by simp)
  unfold SC at h ⊢
  rw [← e0, ← e1, ← e2]
  exact h
theorem SC.make {w W W' : World} {cs : List Value} {d : Nat → Bool} {vs : Nat → Value} {g : Nat} (h : SC w cs d vs W) (h9 : d 9 = false) (hg : g = W.heap.size) (hB : Blk W' g 108 zl) (hK : Kept [] W W') : SC w cs (fun i => if i = 8 then true else d i) (fun i => if i = 8 then P0 g else vs i) W' := by
  refine ⟨h.1.trans hK, fun _ => ⟨g, by simp, by rw [hg]; exact h.1.size, ?_⟩⟩
  simpa [h9] using hB
theorem SC.put {w W W' : World} {cs : List Value} {d : Nat → Bool} {vs : Nat → Value} {g : Nat} {u : Value} (h : SC w cs d vs W) (_ : d 8 = true) (hv : vs 8 = P0 g) (hg : w.heap.size ≤ g) (hB : Blk W' g 108 cs) (hK : Kept [g] W W') : SC w cs (fun i => if i = 9 then true else d i) (fun i => if i = 9 then u else vs i) W' := by
  refine ⟨h.1.fresh hK (fun i hi hl => by simp at hi; omega), fun _ => ⟨g, by simpa using hv, hg, ?_⟩⟩
  simpa using hB
section
variable {o op : Oper} {ops : Array Oper} {rest : List Oper} {a : Act} {w : World} {K : Act → World → Prop} {Q : Exit → Act → World → Prop}
theorem wpSl3 (hgd : op.guard = none) (x y z : Operand) (ho : op.op = .slice 35 x none (some y) (some z)) (ao : Option Addr) (n c : Nat) (hn : n ≤ c) (hno : ao = none → n = 0 ∧ c = 0) (hx : a.eval x = .slice ao n c) (hy : a.eval y = .int .i64 n) (hz : a.eval z = .int .i64 n) (h : wpList Try.prog ops Q rest (a.put op.dst (.slice ao n n)) w) : wpList Try.prog ops Q (op :: rest) a w :=
  wpList_plain hgd fun _ hK => by
    unfold Oper.wp execOp
    simp only [ho, hx, hy, hz, Option.map_none, Option.map_some]
    cases ao with
    | none =>
      obtain ⟨h1, h2⟩ := hno rfl
      subst h1 h2
      simp [go_sem]
      exact hK _ _ h
    | some ad =>
      obtain ⟨g, off, sp⟩ := ad
      simp [go_sem, hn]
      exact hK _ _ h
theorem wpStF {T : Nat} (hs : (Try.prog.info? T).map (·.size) = some 1) (hgd : op.guard = none) (x y : Operand) (ho : op.op = .store T x y) (hd : op.dst = none) (b off : Nat) (v : Value) (h1 : One v) (hx : a.eval x = .pointer (some ⟨b, off, none⟩)) (hy : a.eval y = v) {TT : Nat} {us : List Value} (hB : Blk w b TT us) (hl : off < us.length)
    (h : ∀ W, Blk W b TT (us.set off v) → Kept [b] w W → wpList Try.prog ops Q rest a W) : wpList Try.prog ops Q (op :: rest) a w :=
  wpList_plain hgd fun K hK => by
    have hst := storeVar1 hs hB hl v h1.1 h1.2
    unfold Oper.wp execOp
    simp only [ho, hx, hy, Instr.storeAt, Instr.sureAddr, Sem.run_bind, Sem.run_pure, Result.andThen_ok, hst]
    refine hK _ _ ?_
    rw [hd]
    exact h _ (hB.set v) ((Kept.refl _ _).setCell (by simp) v)
end
theorem size35 : (Try.prog.info? 35).map (·.size) = some 1 := by kernel_rfl
variable {A : Nat} {w W : World} {x : Lk}
/-- A lock's copy. -/
def Lk.cp (x : Lk) (p : Nat) (ln : Value) : Lk := ⟨x.k, p, ln, x.s, x.q⟩
set_option maxHeartbeats 4000000 in
theorem copy39 (h : Lc A w x) : Calls Try.prog 39 #[P0 x.p] w fun e W => ∃ p ln, e = .returned (P0 p) ∧ w.heap.size ≤ p ∧ Lc A W (x.cp p ln) ∧ ln.ownBlock = x.ln.ownBlock ∧ spare ln = [] ∧ Kept [] w W := by
  obtain ⟨cs, hcs⟩ : ∃ c, x.s.C x.ln = c := ⟨_, rfl⟩
  obtain ⟨ln, hln⟩ : ∃ c, x.ln = c := ⟨_, rfl⟩
  obtain ⟨b, hb⟩ : ∃ c, x.p = c := ⟨_, rfl⟩
  obtain ⟨q, hq⟩ : ∃ c, x.q = c := ⟨_, rfl⟩
  obtain ⟨n, hn⟩ : ∃ c, q.length = c := ⟨_, rfl⟩
  have H := hide h
  have HB : Hid (Blk w b 108 cs) := by rw [← hb, ← hcs]; exact h.blk
  have HR : Hid (Rw w 38 2 ln n (wsC q)) := by rw [← hn, ← hq, ← hln]; exact h.row
  have HCL : Hid (cs.length = 40) := by show _ = _; rw [← hcs]; rfl
  have HCE : Hid (w.cell? ⟨b, 27, none⟩ = some ln) := by rw [← hb, ← hln]; exact fits_cell h.blk 27 _ rfl
  have HC1 : Hid (∀ v ∈ cs, v.oneCell' = true) := by rw [← hcs]; exact LoC_one h.row.one.1
  have HCS : Hid (x.s.C ln = cs) := by show _ = _; rw [← hln]; exact hcs
  rw [hb]
  go_enter Try.func39, Try.ntmps39
  go_wp2_with (
    first
    | (go_at_call 68
       refine (none40 x.s ln b _ (by rw [show x.s.C ln = cs from unhide HCS]; exact unhide HB)).mono ?_
       rintro e W9 ⟨rfl, q9⟩
       replace q9 := q9.symm
       subst q9
       refine Stp.go ?_))
  constructor
  go_upto_region 3 with fail
  refine wp_region_any mixed (wpAny_gx 11 rfl (by kernel_rfl) [some (P0 b), some (P0 b), some (aggV cs), some (P0 b), some (P0 b), some (.pointer (some ⟨b, 27, none⟩)), some ln, some (.int .i64 n), none, none, some (.int .i64 n)] rfl (by kernel_rfl) (fun l vs W => (SC w cs) (fun i => l.getD i false) vs W) ⟨(Kept.refl _ _).drew, fun h9 => by simp at h9⟩ ?_ ?_)
  · intro ix o' hi ho a' w2 l vs hls hlf hJ hout hin hdep hnot
    match ix, ho with
    | 0, ho =>
      obtain rfl := Option.some.inj ho
      have e0 := hout 0 (by kernel_rfl)
      replace e0 : a'.eval (.tmp 0) = P0 b := e0.trans rfl
      exact wp_move (.tmp 0) rfl _ e0 ⟨_, rfl, told_of rfl, keepG (St := SC w cs) [8, 9] SC.loc (by omega) (by decide) hJ⟩
    | 1, ho =>
      obtain rfl := Option.some.inj ho
      have e0 : a'.eval (.tmp 7) = P0 b := by have h9 := hin 0 7 (by kernel_rfl) (by kernel_rfl); exact h9.1.trans (told_is _ h9.2 rfl)
      exact o_nil (.tmp 7) rfl _ e0 ⟨_, rfl, told_of rfl, keepG (St := SC w cs) [8, 9] SC.loc (by omega) (by decide) hJ⟩
    | 2, ho =>
      obtain rfl := Option.some.inj ho
      have e0 : a'.eval (.tmp 8) = P0 b := by have h9 := hin 1 8 (by kernel_rfl) (by kernel_rfl); exact h9.1.trans (told_is _ h9.2 rfl)
      exact wp_loadA row75 (.tmp 8) rfl b 0 e0 cs (unhide HCL) ((unhide HB).kept hJ.1 (by simp)).range ⟨_, rfl, told_of rfl, keepG (St := SC w cs) [8, 9] SC.loc (by omega) (by decide) hJ⟩
    | 3, ho =>
      obtain rfl := Option.some.inj ho
      have e0 := hout 0 (by kernel_rfl)
      replace e0 : a'.eval (.tmp 0) = P0 b := e0.trans rfl
      exact wp_move (.tmp 0) rfl _ e0 ⟨_, rfl, told_of rfl, keepG (St := SC w cs) [8, 9] SC.loc (by omega) (by decide) hJ⟩
    | 4, ho =>
      obtain rfl := Option.some.inj ho
      have e0 : a'.eval (.tmp 10) = P0 b := by have h9 := hin 3 10 (by kernel_rfl) (by kernel_rfl); exact h9.1.trans (told_is _ h9.2 rfl)
      exact o_nil (.tmp 10) rfl _ e0 ⟨_, rfl, told_of rfl, keepG (St := SC w cs) [8, 9] SC.loc (by omega) (by decide) hJ⟩
    | 5, ho =>
      obtain rfl := Option.some.inj ho
      have e0 : a'.eval (.tmp 11) = P0 b := by have h9 := hin 4 11 (by kernel_rfl) (by kernel_rfl); exact h9.1.trans (told_is _ h9.2 rfl)
      exact o_fld75_6 (.tmp 11) rfl b 0 27 rfl e0 ⟨_, rfl, told_of rfl, keepG (St := SC w cs) [8, 9] SC.loc (by omega) (by decide) hJ⟩
    | 6, ho =>
      obtain rfl := Option.some.inj ho
      have e0 : a'.eval (.tmp 12) = .pointer (some ⟨b, 27, none⟩) := by have h9 := hin 5 12 (by kernel_rfl) (by kernel_rfl); exact h9.1.trans (told_is _ h9.2 rfl)
      exact o_load38 (.tmp 12) rfl _ _ e0 (hJ.1.cell (unhide HCE) (by simp)) ⟨_, rfl, told_of rfl, keepG (St := SC w cs) [8, 9] SC.loc (by omega) (by decide) hJ⟩
    | 7, ho =>
      obtain rfl := Option.some.inj ho
      have e0 : a'.eval (.tmp 13) = ln := by have h9 := hin 6 13 (by kernel_rfl) (by kernel_rfl); exact h9.1.trans (told_is _ h9.2 rfl)
      exact o_len38 (.tmp 13) rfl ln n (wsC q) e0 ((unhide HR).kept hJ.1 (fun _ _ => by simp)) ⟨_, rfl, told_of rfl, keepG (St := SC w cs) [8, 9] SC.loc (by omega) (by decide) hJ⟩
    | 8, ho =>
      obtain rfl := Option.some.inj ho
      refine o_allocZ zl zero108 rfl (fun W g h1 h2 h3 => ?_)
      exact ⟨_, rfl, told_no rfl, nextG (St := SC w cs) (by omega) (SC.make hJ (hnot 9 (by kernel_rfl)) h1 h2 h3)⟩
    | 9, ho =>
      obtain rfl := Option.some.inj ho
      have e0 : a'.eval (.tmp 3) = vs 8 := (hin 8 3 (by kernel_rfl) (by kernel_rfl)).1
      have e1 : a'.eval (.tmp 9) = aggV cs := by have h9 := hin 2 9 (by kernel_rfl) (by kernel_rfl); exact h9.1.trans (told_is _ h9.2 rfl)
      obtain ⟨g, hv, hg, hB⟩ := hJ.2 (hdep 8 (by kernel_rfl))
      rw [hv] at e0
      rw [if_neg (by show ¬ (l.getD 9 false = true); rw [hlf]; decide)] at hB
      refine o_stB row75 (.tmp 3) (.tmp 9) rfl g cs zl e0 e1 (unhide HCL) rfl (by decide) (unhide HC1) hB (fun W h1 h2 => ?_)
      exact ⟨_, rfl, told_no rfl, nextG (St := SC w cs) (by omega) (SC.put hJ (hdep 8 (by kernel_rfl)) hv hg h1 h2)⟩
    | 10, ho =>
      obtain rfl := Option.some.inj ho
      have e0 : a'.eval (.tmp 14) = .int .i64 n := by have h9 := hin 7 14 (by kernel_rfl) (by kernel_rfl); exact h9.1.trans (told_is _ h9.2 rfl)
      exact wp_assignV (.tmp 14) rfl _ e0 ⟨_, rfl, told_of rfl, keepG (St := SC w cs) [8, 9] SC.loc (by omega) (by decide) hJ⟩
  intro l_ vs4 V4 hl hJ htold
  have t0 : vs4 0 = P0 b := told_is _ (htold 0 (by decide)) rfl
  have t1 : vs4 1 = P0 b := told_is _ (htold 1 (by decide)) rfl
  have t2 : vs4 2 = aggV cs := told_is _ (htold 2 (by decide)) rfl
  have t3 : vs4 3 = P0 b := told_is _ (htold 3 (by decide)) rfl
  have t4 : vs4 4 = P0 b := told_is _ (htold 4 (by decide)) rfl
  have t5 : vs4 5 = .pointer (some ⟨b, 27, none⟩) := told_is _ (htold 5 (by decide)) rfl
  have t6 : vs4 6 = ln := told_is _ (htold 6 (by decide)) rfl
  have t7 : vs4 7 = .int .i64 n := told_is _ (htold 7 (by decide)) rfl
  have t10 : vs4 10 = .int .i64 n := told_is _ (htold 10 (by decide)) rfl
  obtain ⟨g, t8, hg, hB⟩ := hJ.2 (hl 8 (by decide))
  rw [if_pos (hl 9 (by decide))] at hB
  rw [show (List.range 11).map vs4 = [vs4 0, vs4 1, vs4 2, vs4 3, vs4 4, vs4 5, vs4 6, vs4 7, vs4 8, vs4 9, vs4 10] from rfl]
  simp only [t0, t1, t2, t3, t4, t5, t6, t7, t8, t10, putAll, Act.put, List.setIfInBounds_toArray, List.set_cons_succ, List.set_cons_zero]
  have HK := hide hJ.1
  have HG := hide hg
  have HGB := hide hB
  have c27 := (unhide HK).cell (unhide HCE) (by simp)
  have k27 := fits_cell hB 27 _ (by rw [← unhide HCS]; rfl)
  clear t0 t1 t2 t3 t4 t5 t6 t7 t8 t10 htold hl hJ hg hB
  obtain ⟨ao, c, hv, hnc, hno⟩ := (unhide HR).sl
  subst hv
  have hone : One (.slice ao n n) := (capD (unhide HR)).one
  go_wp2_with (
    first
    | (refine wpSl3 rfl (.tmp 18) (.tmp 19) (.tmp 20) rfl ao n c hnc hno rfl rfl rfl ?_
       refine Stp.go ?_))
  constructor
  go_wp2_with (
    first
    | (refine wpStF size35 rfl (.tmp 22) (.tmp 21) rfl rfl g 27 (.slice ao n n) hone rfl rfl (unhide HGB) (by rw [unhide HCL]; decide) ?_
       intro W2 B2 K2
       have HB2 := hide B2
       have HK2 := hide K2
       clear B2 K2
       refine Stp.go ?_))
  constructor
  go_wp2_with fail
  go_ret
  have hg := unhide HG
  have hk2 := unhide HK2
  have hk := (unhide HK).fresh hk2 (fun i hi hl => by simp at hi; omega)
  refine ⟨g, .slice ao n n, rfl, hg, ⟨?_, ?_, (unhide H).gd⟩, ?_, ?_, hk⟩
  · have h9 := unhide HB2
    rw [← unhide HCS] at h9
    exact h9
  · show Rw _ _ _ _ x.q.length (wsC x.q)
    rw [hq, hn]
    exact (capD (unhide HR)).kept hk (fun _ _ => by simp)
  · rw [hln]; cases ao <;> rfl
  · cases ao <;> simp [spare]

end Go.Proofs.Ytbigongmlpoahaa.D

/-
  Book.
-/
import Derived.Test.YtbigongmlpoahaaDh
import Derived.Test.YtbigongmlpoahaaFq
namespace Go.Proofs.Ytbigongmlpoahaa.D
set_option maxRecDepth 100000
set_option linter.unusedSimpArgs false
open Go.RowKit

theorem build40z (w : World) : (Instr.build 40 #[]).run Try.prog w = .ok (aggV bz43) w := by kernel_rfl
section
variable {ops : Array Oper} {rest : List Oper} {op o : Oper} {a : Act} {w : World} {K : Act → World → Prop} {Q : Exit → Act → World → Prop}
/-- A value of many cells into a block of one's own. -/
theorem wpStB {T m : Nat} (hT : Row T m) (hgd : op.guard = none) (x y : Operand) (ho : op.op = .store T x y) (b : Nat) (vs us : List Value) (hx : a.eval x = P0 b) (hy : a.eval y = aggV vs) (hl : vs.length = m) (hu : us.length = m) (_ : 0 < m) (h1 : ∀ v ∈ vs, v.oneCell' = true) (hB : Blk w b T us)
    (h : ∀ W, Blk W b T vs → Kept [b] w W → wpList Try.prog ops Q rest (a.put op.dst undef) W) : wpList Try.prog ops Q (op :: rest) a w :=
  wpStoreA hT hgd x y ho b 0 vs hx hy hl h1 (hB.there (by omega)) (h _ (hB.put (by omega)) ((Kept.refl _ _).setCells _ _ (by simp)))
end
theorem res11 (w : World) (z : Nat) (f : Bool) (vs : List Value) (tmps : Array Value) (h4 : tmps[4]?.getD undef = P0 z) (h5 : tmps[5]?.getD undef = .bool f) (hl : vs.length = 17) (hb : Blk w z 40 vs) : (results Try.f11 tmps).run Try.prog w = .ok (.tuple #[aggV vs, .bool f]) w := by
  have := loadV row43 hl hb
  simp [results, Try.results11, h4, h5, this, asAddr]
theorem bz_one : ∀ v ∈ bz43, v.oneCell' = true := by decide
variable {A F : Nat} {w W W' : World} {b mb : Nat} {L : List Lk} {v ln : Value} {n : Int} {x : Lk}
set_option maxHeartbeats 4000000 in
theorem book11_z (h : Nil w v) (n : Int) : Calls Try.prog 11 #[v, .int .i64 n] w fun e W => e = .returned (.tuple #[aggV bz43, .bool false]) ∧ Kept [] w W := by
  obtain ⟨pz, rfl⟩ := h.ptr
  have H := hide h
  clear h
  go_enter Try.func11, Try.ntmps11
  go_wp2_with (
    first
    | (refine wpAllocW bz43 zero43 4 rfl rfl rfl ?_
       intro W1 z e1 B1 K1
       have HB := hide B1
       have HK := hide K1
       have HZ : Hid (w.heap.size ≤ z) := by show _ ≤ _; omega
       clear e1 B1 K1
       refine Stp.go ?_))
  constructor
  go_wp2_with (
    first
    | (go_at_call 35
       refine (none35_z ((unhide H).step (unhide HK))).mono ?_
       rintro e W9 ⟨rfl, q9⟩
       replace q9 := q9.symm
       subst q9
       refine Stp.go ?_))
  constructor
  go_wp2_with (
    first
    | (refine wpBuildZ bz43 build40z rfl rfl ?_
       refine Stp.go ?_))
  constructor
  go_wp2_with (
    first
    | (refine wpStB row43 rfl (.tmp 4) (.tmp 17) rfl z bz43 bz43 rfl rfl rfl rfl (by decide) bz_one (unhide HB) ?_
       intro W2 B2 K2
       replace HB := hide B2
       replace HK := hide ((unhide HK).fresh K2 (fun i hi hl => by simp at hi; have := unhide HZ; omega))
       clear B2 K2
       refine Stp.go ?_))
  constructor
  go_wp2_with fail
  exact bodyPost_ret (res11 _ z false _ _ rfl rfl rfl (unhide HB)) rfl ⟨rfl, unhide HK⟩
set_option maxHeartbeats 4000000 in
theorem book11_no (h : Dg A w b mb L) (hn : lkOf n L = none) : Calls Try.prog 11 #[P0 b, .int .i64 n] w fun e W => e = .returned (.tuple #[aggV bz43, .bool false]) ∧ Kept [] w W := by
  have H := hide h
  have c0 := h.cw
  have HL : Hid (lookV n (L.map Lk.e) = .pointer none) := by show _ = _; rw [(look_lk n L).1, hn]
  clear h hn
  go_enter Try.func11, Try.ntmps11
  go_wp2_with (
    first
    | (refine wpAllocW bz43 zero43 4 rfl rfl rfl ?_
       intro W1 z e1 B1 K1
       have HB := hide B1
       have HK := hide K1
       have HZ : Hid (w.heap.size ≤ z) := by show _ ≤ _; omega
       replace c0 := K1.cell c0 (by simp)
       clear e1 B1 K1
       refine Stp.go ?_))
  constructor
  go_wp2_with (
    first
    | (go_at_call 35
       refine (none35 ((unhide H).step0 (unhide HK))).mono ?_
       rintro e W9 ⟨rfl, q9⟩
       replace q9 := q9.symm
       subst q9
       refine Stp.go ?_))
  constructor
  go_wp2_with (
    first
    | (refine wpLook1 (by rfl) (.tmp 12) (.tmp 13) rfl mb (L.map Lk.e) n _ rfl rfl (unhide HL) ((unhide H).map.kept (unhide HK) (by simp)) ?_
       refine Stp.go ?_))
  constructor
  go_wp2_with (
    first
    | (refine wpBuildZ bz43 build40z rfl rfl ?_
       refine Stp.go ?_))
  constructor
  go_wp2_with (
    first
    | (refine wpStB row43 rfl (.tmp 4) (.tmp 17) rfl z bz43 bz43 rfl rfl rfl rfl (by decide) bz_one (unhide HB) ?_
       intro W2 B2 K2
       replace HB := hide B2
       replace HK := hide ((unhide HK).fresh K2 (fun i hi hl => by simp at hi; have := unhide HZ; omega))
       clear B2 K2
       refine Stp.go ?_))
  constructor
  go_wp2_with fail
  exact bodyPost_ret (res11 _ z false _ _ rfl rfl rfl (unhide HB)) rfl ⟨rfl, unhide HK⟩
set_option maxHeartbeats 4000000 in
theorem book11_is (h : Dg A w b mb L) (hA : A ≤ 900) (hn : lkOf n L = some x) : Calls Try.prog 11 #[P0 b, .int .i64 n] w fun e W => ∃ x1 x2 x3, e = .returned (.tuple #[aggV ((x.s.book x.q).C x1 x2 x3), .bool true]) ∧ Bk w W (x.s.book x.q) x1 x2 x3 ∧ Kept [] w W := by
  have H := hide h
  have c0 := h.cw
  have HL : Hid (lookV n (L.map Lk.e) = P0 x.p) := by show _ = _; rw [(look_lk n L).1, hn]
  have HX := hide (h.lk x (lkOf_some hn).1)
  have HLQ : Hid (x.q.length ≤ 1000) := by have := (h.lk x (lkOf_some hn).1).gd.len; show _ ≤ _; omega
  clear h hn
  go_enter Try.func11, Try.ntmps11
  go_wp2_with (
    first
    | (refine wpAllocW bz43 zero43 4 rfl rfl rfl ?_
       intro W1 z e1 B1 K1
       have HB := hide B1
       have HK := hide K1
       have HZ : Hid (w.heap.size ≤ z) := by show _ ≤ _; omega
       replace c0 := K1.cell c0 (by simp)
       clear e1 B1 K1
       refine Stp.go ?_))
  constructor
  go_wp2_with (
    first
    | (go_at_call 35
       refine (none35 ((unhide H).step0 (unhide HK))).mono ?_
       rintro e W9 ⟨rfl, q9⟩
       replace q9 := q9.symm
       subst q9
       refine Stp.go ?_))
  constructor
  go_wp2_with (
    first
    | (refine wpLook1 (by rfl) (.tmp 12) (.tmp 13) rfl mb (L.map Lk.e) n _ rfl rfl (unhide HL) ((unhide H).map.kept (unhide HK) (by simp)) ?_
       refine Stp.go ?_))
  constructor
  go_wp2_with (
    first
    | (refine wpLook1 (by rfl) (.tmp 21) (.tmp 22) rfl mb (L.map Lk.e) n _ rfl rfl (unhide HL) ((unhide H).map.kept (unhide HK) (by simp)) ?_
       refine Stp.go ?_))
  constructor
  go_wp2_with (
    first
    | (go_at_call 36
       refine (book15 x.s x.ln x.p x.q _ ((unhide HX).blk.kept (unhide HK) (by simp)) ((unhide HX).row.kept (unhide HK) (fun _ _ => by simp)) (unhide HX).gd.ok.ex (unhide HLQ)).mono ?_
       rintro e W3 ⟨x1, x2, x3, rfl, h1, h2⟩
       have HBk := hide h1
       have HKW := HK
       have HZ1 : Hid (z < W1.heap.size) := (unhide HB).lt
       have HOne := hide (BoC_one h1)
       replace HB := hide ((unhide HB).kept h2 (by simp))
       replace HK := hide ((unhide HK).trans h2)
       clear h1 h2
       refine Stp.go ?_))
  constructor
  go_wp2_with (
    first
    | (refine wpStB row43 rfl (.tmp 4) (.tmp 24) rfl z ((x.s.book x.q).C x1 x2 x3) bz43 rfl rfl rfl rfl (by decide) (unhide HOne) (unhide HB) ?_
       intro W2 B2 K2
       replace HB := hide B2
       replace HK := hide ((unhide HK).fresh K2 (fun i hi hl => by simp at hi; have := unhide HZ; omega))
       have HBk2 := hide (((unhide HBk).kept K2 (fun i hi => by simp; have := unhide HZ1; omega)).elder (unhide HKW).size)
       clear B2 K2 HBk
       refine Stp.go ?_))
  constructor
  go_wp2_with fail
  exact bodyPost_ret (res11 _ z true _ _ rfl rfl rfl (unhide HB)) rfl ⟨x1, x2, x3, rfl, unhide HBk2, unhide HK⟩

end Go.Proofs.Ytbigongmlpoahaa.D

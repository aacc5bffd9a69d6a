/-
  The document's Look; Same.
-/
import Derived.Test.YthidiolgngkffaaLf
namespace Go.Proofs.Ythidiolgngkffaa
set_option maxRecDepth 100000
open Go.RowKit


theorem wtC_setAge {v : Wt} (hv : v.ls.length = 8) {m : Int} (hm : m.toNat < 8) (k : Lk) (hk : v.ls[m.toNat]? = some k) (n : Int) : v.C.set (2 + m.toNat * 5 + 4) (.int .i64 n) = (v.put m ⟨k.is, k.said, n⟩).C := by
  have hn : m.toNat < v.ls.length := by omega
  obtain ⟨_, hk2⟩ := List.getElem?_eq_some_iff.1 hk
  have hc : (v.put m ⟨k.is, k.said, n⟩).C = (.int .i64 v.n :: .int .i64 v.p :: lksC (v.ls.take m.toNat)) ++ (Lk.C ⟨k.is, k.said, n⟩ ++ lksC (v.ls.drop (m.toNat + 1))) := by
    simp only [Wt.put, Wt.C]
    rw [lksC_set _ _ hn]; simp
  have h' : v.C = (.int .i64 v.n :: .int .i64 v.p :: lksC (v.ls.take m.toNat)) ++ (k.C ++ lksC (v.ls.drop (m.toNat + 1))) := by
    simp only [Wt.C]
    rw [lksC_split _ _ hn, hk2]; simp
  have hl : (Value.int .i64 v.n :: .int .i64 v.p :: lksC (v.ls.take m.toNat)).length = 2 + m.toNat * 5 := by simp [lksC_len]; omega
  rw [h', hc, List.set_append_right _ _ (by omega), hl, show 2 + m.toNat * 5 + 4 - (2 + m.toNat * 5) = 4 by omega]
  rfl
section
variable {ops : Array Oper} {rest : List Oper} {op : Oper} {a : Act} {w w0 : World} {Q : Exit → Act → World → Prop} {bs : List (Nat × Nat × List Value)} {X : List Nat}
/-- One cell of a block that is kept in mind is written; the cells that it then has are told. -/
theorem wpStoreMT {T : Nat} (hs : (Try.prog.info? T).map (·.size) = some 1) (hgd : op.guard = none) (x y : Operand) (ho : op.op = .store T x y) (hd : op.dst = none) (b off i : Nat) (v : Value) (h1 : One v) (hx : a.eval x = .pointer (some ⟨b, off, none⟩)) (hy : a.eval y = v) (hM : Mm X w0 w bs) {TT : Nat} {us : List Value} (vs : List Value) (hi : bs[i]? = some (b, TT, us)) (hl : off < us.length) (he : us.set off v = vs)
    (h : ∀ W, Mm X w0 W (bs.set i (b, TT, vs)) → wpList Try.prog ops Q rest a W) : wpList Try.prog ops Q (op :: rest) a w := by
  subst he
  exact wpStoreM1 hs hgd x y ho hd b off i v h1 hx hy hM hi hl h
end
theorem put_at {A : Int} {v : Wt} (h : v.Ok A) {m : Int} (hm : m.toNat < 8) {k : Lk} : (v.put m k).ls[m.toNat]? = some k := by
  simp only [Wt.put]
  rw [List.getElem?_set_self (by rw [h.len]; exact hm)]
set_option maxHeartbeats 2000000 in
theorem rlook_c {A : Int} (v : Wt) (b : Nat) (m : Int) (lx : Le) (w : World) (hB : Blk w b 79 v.C) (hv : v.Ok A) (hh : v.has m = true) (hm : lx.may = true) (his : (v.lk m).is = false) : Calls Try.prog 31 #[P0 b, .int .i64 m, aggV lx.C] w fun e w' => e = .returned (.tuple #[.bool (decide (v.p ≤ (Lk.mk true lx 0).age)), .int .i64 0]) ∧ Blk w' b 79 (v.put m (Lk.mk true lx 0)).C ∧ Kept [b] w w' := by
  have P44 : ∀ W, Blk W b 79 v.C → Hid (Calls Try.prog 44 #[P0 b, .int .i64 m] W fun e w' => e = .returned (.bool true) ∧ w' = W) := fun W hW => hide (by have := in44 v b m W hW; rw [hh] at this; exact this)
  have P12 : ∀ W, Hid (Calls Try.prog 12 #[aggV lx.C] W fun e w' => e = .returned (.bool true) ∧ Kept [] W w') := fun W => hide (by have := rmay12 lx W; rw [hm] at this; exact this)
  obtain ⟨m0, m8⟩ := has_lt hv hh
  have m8n : m.toNat < 8 := by omega
  go_enter Try.func31, Try.ntmps31
  have M : Hid (Mm [b] w w [(b, 79, v.C)]) := hide (Mm.one hB)
  go_wp2_with (
    first
    | (refine wpBoxV rfl (.tmp 2) rfl (lx.C) rfl ?_
       intro W1 b1 e1 B1 K1
       replace M : Hid (Mm [b] w W1 [(b, 79, v.C), (b1, 23, lx.C)]) := hide ((unhide M).new e1 B1 K1)
       clear e1 B1 K1
       refine Stp.go ?_))
  constructor
  go_wp2_with (
    first
    | (go_at_call 44
       refine (unhide (P44 _ ((unhide M).at 0 _ rfl))).mono ?_
       rintro e W2 ⟨rfl, q2⟩
       replace q2 := q2.symm
       subst q2
       refine Stp.go ?_))
  constructor
  go_wp2_with (
    first
    | (refine wpLoadG row23 (.tmp 5) rfl rfl b1 0 rfl (lx.C) rfl ((unhide M).at 1 _ rfl).range ?_
       refine Stp.go ?_))
  constructor
  go_wp2_with (
    first
    | (go_at_call 12
       refine (unhide (P12 _)).mono ?_
       rintro e W3 ⟨rfl, K3⟩
       replace M : Hid (Mm [b] w W3 [(b, 79, v.C), (b1, 23, lx.C)]) := hide ((unhide M).step K3)
       clear K3
       refine Stp.go ?_))
  constructor
  go_wp2_with fail
  refine wp_region_any mixed (wpAny_tq 12 rfl (by kernel_rfl) [some (.pointer (some ⟨b, 2 + m.toNat * 5, none⟩)), some (.pointer (some ⟨b, 2 + m.toNat * 5, none⟩)), some (.pointer (some ⟨b, 2 + m.toNat * 5, none⟩)), some (.bool false), some (.bool false), none, none, none, none, none, none, some (.bool false)] rfl (by kernel_rfl) (by kernel_rfl) ?_ ?_)
  · intro i o' hi hsk ho a' w2 hout hin hk2
    replace hk2 : Kept [] W3 w2 := ⟨hk2.os, hk2.tape, hk2.output, hk2.size, hk2.block⟩
    match i, ho, hsk with
    | 0, ho, hsk =>
      obtain rfl := Option.some.inj ho
      exact wp_move (.tmp 8) rfl _ ((hout 8 (by kernel_rfl)).trans rfl) ⟨_, rfl, tq_is _ _ _ _ rfl, Kept.refl _ _, fun _ _ _ _ _ => trivial⟩
    | 1, ho, hsk =>
      obtain rfl := Option.some.inj ho
      have e0 : a'.eval (.tmp 25) = .pointer (some ⟨b, 2 + m.toNat * 5, none⟩) := is_tq (hin 0 25 (by kernel_rfl) (by kernel_rfl)) rfl
      exact o_nil (.tmp 25) rfl _ e0 ⟨_, rfl, tq_is _ _ _ _ rfl, Kept.refl _ _, fun _ _ _ _ _ => trivial⟩
    | 2, ho, hsk =>
      obtain rfl := Option.some.inj ho
      have e0 : a'.eval (.tmp 26) = .pointer (some ⟨b, 2 + m.toNat * 5, none⟩) := is_tq (hin 1 26 (by kernel_rfl) (by kernel_rfl)) rfl
      exact o_fld76_0 (.tmp 26) rfl b _ e0 ⟨_, rfl, tq_is _ _ _ _ rfl, Kept.refl _ _, fun _ _ _ _ _ => trivial⟩
    | 3, ho, hsk =>
      obtain rfl := Option.some.inj ho
      have e0 : a'.eval (.tmp 27) = .pointer (some ⟨b, 2 + m.toNat * 5, none⟩) := is_tq (hin 2 27 (by kernel_rfl) (by kernel_rfl)) rfl
      exact o_load4 (.tmp 27) rfl _ _ e0 (by rw [← his]; exact fits_cell (((unhide M).step hk2).at 0 _ rfl) _ _ (wtC_at (lk_at hv hh) 0 (by omega))) ⟨_, rfl, tq_is _ _ _ _ rfl, Kept.refl _ _, fun _ _ _ _ _ => trivial⟩
    | 4, ho, hsk =>
      obtain rfl := Option.some.inj ho
      have e0 : a'.eval (.tmp 28) = .bool false := is_tq (hin 3 28 (by kernel_rfl) (by kernel_rfl)) rfl
      exact wp_move (.tmp 28) rfl _ e0 ⟨_, rfl, tq_is _ _ _ _ rfl, Kept.refl _ _, fun _ _ _ _ _ => trivial⟩
    | 5, ho, hsk =>
      cases hsk
    | 6, ho, hsk =>
      cases hsk
    | 7, ho, hsk =>
      cases hsk
    | 8, ho, hsk =>
      cases hsk
    | 9, ho, hsk =>
      cases hsk
    | 10, ho, hsk =>
      cases hsk
    | 11, ho, hsk =>
      obtain rfl := Option.some.inj ho
      have e0 : a'.eval (.tmp 29) = .bool false := is_tq (hin 4 29 (by kernel_rfl) (by kernel_rfl)) rfl
      exact o_pickN (.tmp 29) (.tmp 35) rfl e0 ⟨_, rfl, tq_is _ _ _ _ rfl, Kept.refl _ _, fun _ _ _ _ _ => trivial⟩
  intro w9 hk9
  replace hk9 : Kept [] W3 w9 := ⟨hk9.os, hk9.tape, hk9.output, hk9.size, hk9.block⟩
  simp only [valsQ, List.map_cons, List.map_nil, Option.getD_some, Option.getD_none, List.take_succ_cons, List.take_zero, putAll, Act.put, List.setIfInBounds_toArray, List.set_cons_succ, List.set_cons_zero]
  refine wpAny_done (by kernel_rfl) ?_ _
  replace M : Hid (Mm [b] w w9 [(b, 79, v.C), (b1, 23, lx.C)]) := hide ((unhide M).step hk9)
  clear hk9
  go_wp2_with (
    first
    | (refine wpLoadA row23 rfl (.tmp 5) rfl b1 0 rfl (lx.C) rfl ((unhide M).at 1 _ rfl).range ?_
       refine Stp.go ?_))
  constructor
  go_wp2_with (
    first
    | (refine wpBuildP (by rfl) #[(0, .const (.bool true)), (1, .tmp 45)] (by rfl) #[(0, .bool true), (1, aggV lx.C)] (by kernel_rfl) (Lk.mk true lx 0).C (build76p _ lx) ?_
       refine Stp.go ?_))
  constructor
  go_wp2_with (
    first
    | (refine wpStoreLk row76 rfl (.tmp 47) (.tmp 46) rfl rfl b 0 m v (Lk.mk true lx 0) rfl rfl (unhide M) rfl m8n hv.len ?_
       intro W21 N21
       replace M : Hid (Mm [b] w W21 [(b, 79, (v.put m (Lk.mk true lx 0)).C), (b1, 23, lx.C)]) := hide N21
       clear N21
       refine Stp.go ?_))
  constructor
  go_wp2_with fail
  refine wp_region_any mixed (wpAny_tq 11 rfl (by kernel_rfl) [some (.pointer (some ⟨b, 2 + m.toNat * 5, none⟩)), some (.pointer (some ⟨b, 2 + m.toNat * 5, none⟩)), some (.pointer (some ⟨b, 2 + m.toNat * 5 + 4, none⟩)), some (.int .i64 (Lk.mk true lx 0).age), some (P0 b), some (P0 b), some (.pointer (some ⟨b, 0 + 1, none⟩)), some (.int .i64 v.p), some (.bool (decide (v.p ≤ (Lk.mk true lx 0).age))), some (.bool (decide (v.p ≤ (Lk.mk true lx 0).age))), some (.int .i64 0)] rfl (by kernel_rfl) (by kernel_rfl) ?_ ?_)
  · intro i o' hi hsk ho a' w2 hout hin hk2
    replace hk2 : Kept [] W21 w2 := ⟨hk2.os, hk2.tape, hk2.output, hk2.size, hk2.block⟩
    match i, ho, hsk with
    | 0, ho, hsk =>
      obtain rfl := Option.some.inj ho
      exact wp_move (.tmp 8) rfl _ ((hout 8 (by kernel_rfl)).trans rfl) ⟨_, rfl, tq_is _ _ _ _ rfl, Kept.refl _ _, fun _ _ _ _ _ => trivial⟩
    | 1, ho, hsk =>
      obtain rfl := Option.some.inj ho
      have e0 : a'.eval (.tmp 48) = .pointer (some ⟨b, 2 + m.toNat * 5, none⟩) := is_tq (hin 0 48 (by kernel_rfl) (by kernel_rfl)) rfl
      exact o_nil (.tmp 48) rfl _ e0 ⟨_, rfl, tq_is _ _ _ _ rfl, Kept.refl _ _, fun _ _ _ _ _ => trivial⟩
    | 2, ho, hsk =>
      obtain rfl := Option.some.inj ho
      have e0 : a'.eval (.tmp 49) = .pointer (some ⟨b, 2 + m.toNat * 5, none⟩) := is_tq (hin 1 49 (by kernel_rfl) (by kernel_rfl)) rfl
      exact o_fld76_2 (.tmp 49) rfl b _ e0 ⟨_, rfl, tq_is _ _ _ _ rfl, Kept.refl _ _, fun _ _ _ _ _ => trivial⟩
    | 3, ho, hsk =>
      obtain rfl := Option.some.inj ho
      have e0 : a'.eval (.tmp 50) = .pointer (some ⟨b, 2 + m.toNat * 5 + 4, none⟩) := is_tq (hin 2 50 (by kernel_rfl) (by kernel_rfl)) rfl
      exact o_load3 (.tmp 50) rfl _ _ e0 (fits_cell (((unhide M).step hk2).at 0 _ rfl) _ _ (wtC_at (put_at hv m8n) 4 (by omega))) ⟨_, rfl, tq_is _ _ _ _ rfl, Kept.refl _ _, fun _ _ _ _ _ => trivial⟩
    | 4, ho, hsk =>
      obtain rfl := Option.some.inj ho
      exact wp_move (.tmp 0) rfl _ ((hout 0 (by kernel_rfl)).trans rfl) ⟨_, rfl, tq_is _ _ _ _ rfl, Kept.refl _ _, fun _ _ _ _ _ => trivial⟩
    | 5, ho, hsk =>
      obtain rfl := Option.some.inj ho
      have e0 : a'.eval (.tmp 52) = P0 b := is_tq (hin 4 52 (by kernel_rfl) (by kernel_rfl)) rfl
      exact o_nil (.tmp 52) rfl _ e0 ⟨_, rfl, tq_is _ _ _ _ rfl, Kept.refl _ _, fun _ _ _ _ _ => trivial⟩
    | 6, ho, hsk =>
      obtain rfl := Option.some.inj ho
      have e0 : a'.eval (.tmp 53) = P0 b := is_tq (hin 5 53 (by kernel_rfl) (by kernel_rfl)) rfl
      exact o_fld79_1 (.tmp 53) rfl b 0 e0 ⟨_, rfl, tq_is _ _ _ _ rfl, Kept.refl _ _, fun _ _ _ _ _ => trivial⟩
    | 7, ho, hsk =>
      obtain rfl := Option.some.inj ho
      have e0 : a'.eval (.tmp 54) = .pointer (some ⟨b, 0 + 1, none⟩) := is_tq (hin 6 54 (by kernel_rfl) (by kernel_rfl)) rfl
      exact o_load3 (.tmp 54) rfl _ _ e0 ((((unhide M).step hk2).at 0 _ rfl).p) ⟨_, rfl, tq_is _ _ _ _ rfl, Kept.refl _ _, fun _ _ _ _ _ => trivial⟩
    | 8, ho, hsk =>
      obtain rfl := Option.some.inj ho
      have e0 : a'.eval (.tmp 51) = .int .i64 (Lk.mk true lx 0).age := is_tq (hin 3 51 (by kernel_rfl) (by kernel_rfl)) rfl
      have e1 : a'.eval (.tmp 55) = .int .i64 v.p := is_tq (hin 7 55 (by kernel_rfl) (by kernel_rfl)) rfl
      exact o_geq3 (.tmp 51) (.tmp 55) rfl _ _ _ rfl e0 e1 ⟨_, rfl, tq_is _ _ _ _ rfl, Kept.refl _ _, fun _ _ _ _ _ => trivial⟩
    | 9, ho, hsk =>
      obtain rfl := Option.some.inj ho
      have e0 : a'.eval (.tmp 56) = .bool (decide (v.p ≤ (Lk.mk true lx 0).age)) := is_tq (hin 8 56 (by kernel_rfl) (by kernel_rfl)) rfl
      exact wp_assignV (.tmp 56) rfl _ e0 ⟨_, rfl, tq_is _ _ _ _ rfl, Kept.refl _ _, fun _ _ _ _ _ => trivial⟩
    | 10, ho, hsk =>
      obtain rfl := Option.some.inj ho
      exact wp_assignV _ rfl _ rfl ⟨_, rfl, tq_is _ _ _ _ rfl, Kept.refl _ _, fun _ _ _ _ _ => trivial⟩
  intro w8 hk8
  replace hk8 : Kept [] W21 w8 := ⟨hk8.os, hk8.tape, hk8.output, hk8.size, hk8.block⟩
  simp only [valsQ, List.map_cons, List.map_nil, Option.getD_some, List.take_succ_cons, List.take_zero, putAll, Act.put, List.setIfInBounds_toArray, List.set_cons_succ, List.set_cons_zero]
  refine wpAny_done (by kernel_rfl) ?_ _
  go_wp2_with fail
  go_ret2
  have h9 := (unhide M).step hk8
  exact ⟨rfl, h9.at 0 _ rfl, h9.kept⟩
set_option maxHeartbeats 2000000 in
theorem rlook_d {A : Int} (v : Wt) (b : Nat) (m : Int) (lx : Le) (w : World) (hB : Blk w b 79 v.C) (hv : v.Ok A) (hh : v.has m = true) (hm : lx.may = true) (his : (v.lk m).is = true) (hq : decide ((v.lk m).said = lx) = false) : Calls Try.prog 31 #[P0 b, .int .i64 m, aggV lx.C] w fun e w' => e = .returned (.tuple #[.bool (decide (v.p ≤ (Lk.mk true lx 0).age)), .int .i64 0]) ∧ Blk w' b 79 (v.put m (Lk.mk true lx 0)).C ∧ Kept [b] w w' := by
  have P44 : ∀ W, Blk W b 79 v.C → Hid (Calls Try.prog 44 #[P0 b, .int .i64 m] W fun e w' => e = .returned (.bool true) ∧ w' = W) := fun W hW => hide (by have := in44 v b m W hW; rw [hh] at this; exact this)
  have P12 : ∀ W, Hid (Calls Try.prog 12 #[aggV lx.C] W fun e w' => e = .returned (.bool true) ∧ Kept [] W w') := fun W => hide (by have := rmay12 lx W; rw [hm] at this; exact this)
  obtain ⟨m0, m8⟩ := has_lt hv hh
  have m8n : m.toNat < 8 := by omega
  go_enter Try.func31, Try.ntmps31
  have M : Hid (Mm [b] w w [(b, 79, v.C)]) := hide (Mm.one hB)
  go_wp2_with (
    first
    | (refine wpBoxV rfl (.tmp 2) rfl (lx.C) rfl ?_
       intro W1 b1 e1 B1 K1
       replace M : Hid (Mm [b] w W1 [(b, 79, v.C), (b1, 23, lx.C)]) := hide ((unhide M).new e1 B1 K1)
       clear e1 B1 K1
       refine Stp.go ?_))
  constructor
  go_wp2_with (
    first
    | (go_at_call 44
       refine (unhide (P44 _ ((unhide M).at 0 _ rfl))).mono ?_
       rintro e W2 ⟨rfl, q2⟩
       replace q2 := q2.symm
       subst q2
       refine Stp.go ?_))
  constructor
  go_wp2_with (
    first
    | (refine wpLoadG row23 (.tmp 5) rfl rfl b1 0 rfl (lx.C) rfl ((unhide M).at 1 _ rfl).range ?_
       refine Stp.go ?_))
  constructor
  go_wp2_with (
    first
    | (go_at_call 12
       refine (unhide (P12 _)).mono ?_
       rintro e W3 ⟨rfl, K3⟩
       replace M : Hid (Mm [b] w W3 [(b, 79, v.C), (b1, 23, lx.C)]) := hide ((unhide M).step K3)
       clear K3
       refine Stp.go ?_))
  constructor
  go_wp2_with fail
  refine wp_region_any mixed (wpAny_tq 12 rfl (by kernel_rfl) [some (.pointer (some ⟨b, 2 + m.toNat * 5, none⟩)), some (.pointer (some ⟨b, 2 + m.toNat * 5, none⟩)), some (.pointer (some ⟨b, 2 + m.toNat * 5, none⟩)), some (.bool true), some (.bool true), some (.pointer (some ⟨b, 2 + m.toNat * 5, none⟩)), some (.pointer (some ⟨b, 2 + m.toNat * 5, none⟩)), some (.pointer (some ⟨b, 2 + m.toNat * 5 + 1, none⟩)), some (aggV (v.lk m).said.C), some (aggV lx.C), some (.bool false), some (.bool false)] rfl (by kernel_rfl) (by kernel_rfl) ?_ ?_)
  · intro i o' hi hsk ho a' w2 hout hin hk2
    replace hk2 : Kept [] W3 w2 := ⟨hk2.os, hk2.tape, hk2.output, hk2.size, hk2.block⟩
    match i, ho, hsk with
    | 0, ho, hsk =>
      obtain rfl := Option.some.inj ho
      exact wp_move (.tmp 8) rfl _ ((hout 8 (by kernel_rfl)).trans rfl) ⟨_, rfl, tq_is _ _ _ _ rfl, Kept.refl _ _, fun _ _ _ _ _ => trivial⟩
    | 1, ho, hsk =>
      obtain rfl := Option.some.inj ho
      have e0 : a'.eval (.tmp 25) = .pointer (some ⟨b, 2 + m.toNat * 5, none⟩) := is_tq (hin 0 25 (by kernel_rfl) (by kernel_rfl)) rfl
      exact o_nil (.tmp 25) rfl _ e0 ⟨_, rfl, tq_is _ _ _ _ rfl, Kept.refl _ _, fun _ _ _ _ _ => trivial⟩
    | 2, ho, hsk =>
      obtain rfl := Option.some.inj ho
      have e0 : a'.eval (.tmp 26) = .pointer (some ⟨b, 2 + m.toNat * 5, none⟩) := is_tq (hin 1 26 (by kernel_rfl) (by kernel_rfl)) rfl
      exact o_fld76_0 (.tmp 26) rfl b _ e0 ⟨_, rfl, tq_is _ _ _ _ rfl, Kept.refl _ _, fun _ _ _ _ _ => trivial⟩
    | 3, ho, hsk =>
      obtain rfl := Option.some.inj ho
      have e0 : a'.eval (.tmp 27) = .pointer (some ⟨b, 2 + m.toNat * 5, none⟩) := is_tq (hin 2 27 (by kernel_rfl) (by kernel_rfl)) rfl
      exact o_load4 (.tmp 27) rfl _ _ e0 (by rw [← his]; exact fits_cell (((unhide M).step hk2).at 0 _ rfl) _ _ (wtC_at (lk_at hv hh) 0 (by omega))) ⟨_, rfl, tq_is _ _ _ _ rfl, Kept.refl _ _, fun _ _ _ _ _ => trivial⟩
    | 4, ho, hsk =>
      obtain rfl := Option.some.inj ho
      have e0 : a'.eval (.tmp 28) = .bool true := is_tq (hin 3 28 (by kernel_rfl) (by kernel_rfl)) rfl
      exact wp_move (.tmp 28) rfl _ e0 ⟨_, rfl, tq_is _ _ _ _ rfl, Kept.refl _ _, fun _ _ _ _ _ => trivial⟩
    | 5, ho, hsk =>
      obtain rfl := Option.some.inj ho
      exact wp_move (.tmp 8) rfl _ ((hout 8 (by kernel_rfl)).trans rfl) ⟨_, rfl, tq_is _ _ _ _ rfl, Kept.refl _ _, fun _ _ _ _ _ => trivial⟩
    | 6, ho, hsk =>
      obtain rfl := Option.some.inj ho
      have e0 : a'.eval (.tmp 30) = .pointer (some ⟨b, 2 + m.toNat * 5, none⟩) := is_tq (hin 5 30 (by kernel_rfl) (by kernel_rfl)) rfl
      exact o_nil (.tmp 30) rfl _ e0 ⟨_, rfl, tq_is _ _ _ _ rfl, Kept.refl _ _, fun _ _ _ _ _ => trivial⟩
    | 7, ho, hsk =>
      obtain rfl := Option.some.inj ho
      have e0 : a'.eval (.tmp 31) = .pointer (some ⟨b, 2 + m.toNat * 5, none⟩) := is_tq (hin 6 31 (by kernel_rfl) (by kernel_rfl)) rfl
      exact o_fld76_1 (.tmp 31) rfl b _ e0 ⟨_, rfl, tq_is _ _ _ _ rfl, Kept.refl _ _, fun _ _ _ _ _ => trivial⟩
    | 8, ho, hsk =>
      obtain rfl := Option.some.inj ho
      have e0 : a'.eval (.tmp 32) = .pointer (some ⟨b, 2 + m.toNat * 5 + 1, none⟩) := is_tq (hin 7 32 (by kernel_rfl) (by kernel_rfl)) rfl
      exact wp_loadA row23 (.tmp 32) rfl b _ e0 (v.lk m).said.C rfl ((((unhide M).step hk2).at 0 _ rfl).rangeIn _ (fun j hj => by rw [Nat.add_assoc]; exact (wtC_at (lk_at hv hh) (1 + j) (by have h7 : j < 3 := hj; omega)).trans (said_in _ j hj))) ⟨_, rfl, tq_is _ _ _ _ rfl, Kept.refl _ _, fun _ _ _ _ _ => trivial⟩
    | 9, ho, hsk =>
      obtain rfl := Option.some.inj ho
      exact wp_loadA row23 (.tmp 5) rfl b1 0 ((hout 5 (by kernel_rfl)).trans rfl) lx.C rfl (((unhide M).step hk2).at 1 _ rfl).range ⟨_, rfl, tq_is _ _ _ _ rfl, Kept.refl _ _, fun _ _ _ _ _ => trivial⟩
    | 10, ho, hsk =>
      obtain rfl := Option.some.inj ho
      have e0 : a'.eval (.tmp 33) = aggV (v.lk m).said.C := is_tq (hin 8 33 (by kernel_rfl) (by kernel_rfl)) rfl
      have e1 : a'.eval (.tmp 34) = aggV lx.C := is_tq (hin 9 34 (by kernel_rfl) (by kernel_rfl)) rfl
      exact o_eqlA 23 23 guard23 (.tmp 33) (.tmp 34) rfl (v.lk m).said.C lx.C e0 e1 false ((eqL23 _ _ _).trans (by rw [hq])) ⟨_, rfl, tq_is _ _ _ _ rfl, Kept.refl _ _, fun _ _ _ _ _ => trivial⟩
    | 11, ho, hsk =>
      obtain rfl := Option.some.inj ho
      have e0 : a'.eval (.tmp 29) = .bool true := is_tq (hin 4 29 (by kernel_rfl) (by kernel_rfl)) rfl
      have e1 : a'.eval (.tmp 35) = .bool false := is_tq (hin 10 35 (by kernel_rfl) (by kernel_rfl)) rfl
      exact o_pick (.tmp 29) (.tmp 35) rfl _ e0 e1 ⟨_, rfl, tq_is _ _ _ _ rfl, Kept.refl _ _, fun _ _ _ _ _ => trivial⟩
  intro w9 hk9
  replace hk9 : Kept [] W3 w9 := ⟨hk9.os, hk9.tape, hk9.output, hk9.size, hk9.block⟩
  simp only [valsQ, List.map_cons, List.map_nil, Option.getD_some, List.take_succ_cons, List.take_zero, putAll, Act.put, List.setIfInBounds_toArray, List.set_cons_succ, List.set_cons_zero]
  refine wpAny_done (by kernel_rfl) ?_ _
  replace M : Hid (Mm [b] w w9 [(b, 79, v.C), (b1, 23, lx.C)]) := hide ((unhide M).step hk9)
  clear hk9
  go_wp2_with (
    first
    | (refine wpLoadA row23 rfl (.tmp 5) rfl b1 0 rfl (lx.C) rfl ((unhide M).at 1 _ rfl).range ?_
       refine Stp.go ?_))
  constructor
  go_wp2_with (
    first
    | (refine wpBuildP (by rfl) #[(0, .const (.bool true)), (1, .tmp 45)] (by rfl) #[(0, .bool true), (1, aggV lx.C)] (by kernel_rfl) (Lk.mk true lx 0).C (build76p _ lx) ?_
       refine Stp.go ?_))
  constructor
  go_wp2_with (
    first
    | (refine wpStoreLk row76 rfl (.tmp 47) (.tmp 46) rfl rfl b 0 m v (Lk.mk true lx 0) rfl rfl (unhide M) rfl m8n hv.len ?_
       intro W21 N21
       replace M : Hid (Mm [b] w W21 [(b, 79, (v.put m (Lk.mk true lx 0)).C), (b1, 23, lx.C)]) := hide N21
       clear N21
       refine Stp.go ?_))
  constructor
  go_wp2_with fail
  refine wp_region_any mixed (wpAny_tq 11 rfl (by kernel_rfl) [some (.pointer (some ⟨b, 2 + m.toNat * 5, none⟩)), some (.pointer (some ⟨b, 2 + m.toNat * 5, none⟩)), some (.pointer (some ⟨b, 2 + m.toNat * 5 + 4, none⟩)), some (.int .i64 (Lk.mk true lx 0).age), some (P0 b), some (P0 b), some (.pointer (some ⟨b, 0 + 1, none⟩)), some (.int .i64 v.p), some (.bool (decide (v.p ≤ (Lk.mk true lx 0).age))), some (.bool (decide (v.p ≤ (Lk.mk true lx 0).age))), some (.int .i64 0)] rfl (by kernel_rfl) (by kernel_rfl) ?_ ?_)
  · intro i o' hi hsk ho a' w2 hout hin hk2
    replace hk2 : Kept [] W21 w2 := ⟨hk2.os, hk2.tape, hk2.output, hk2.size, hk2.block⟩
    match i, ho, hsk with
    | 0, ho, hsk =>
      obtain rfl := Option.some.inj ho
      exact wp_move (.tmp 8) rfl _ ((hout 8 (by kernel_rfl)).trans rfl) ⟨_, rfl, tq_is _ _ _ _ rfl, Kept.refl _ _, fun _ _ _ _ _ => trivial⟩
    | 1, ho, hsk =>
      obtain rfl := Option.some.inj ho
      have e0 : a'.eval (.tmp 48) = .pointer (some ⟨b, 2 + m.toNat * 5, none⟩) := is_tq (hin 0 48 (by kernel_rfl) (by kernel_rfl)) rfl
      exact o_nil (.tmp 48) rfl _ e0 ⟨_, rfl, tq_is _ _ _ _ rfl, Kept.refl _ _, fun _ _ _ _ _ => trivial⟩
    | 2, ho, hsk =>
      obtain rfl := Option.some.inj ho
      have e0 : a'.eval (.tmp 49) = .pointer (some ⟨b, 2 + m.toNat * 5, none⟩) := is_tq (hin 1 49 (by kernel_rfl) (by kernel_rfl)) rfl
      exact o_fld76_2 (.tmp 49) rfl b _ e0 ⟨_, rfl, tq_is _ _ _ _ rfl, Kept.refl _ _, fun _ _ _ _ _ => trivial⟩
    | 3, ho, hsk =>
      obtain rfl := Option.some.inj ho
      have e0 : a'.eval (.tmp 50) = .pointer (some ⟨b, 2 + m.toNat * 5 + 4, none⟩) := is_tq (hin 2 50 (by kernel_rfl) (by kernel_rfl)) rfl
      exact o_load3 (.tmp 50) rfl _ _ e0 (fits_cell (((unhide M).step hk2).at 0 _ rfl) _ _ (wtC_at (put_at hv m8n) 4 (by omega))) ⟨_, rfl, tq_is _ _ _ _ rfl, Kept.refl _ _, fun _ _ _ _ _ => trivial⟩
    | 4, ho, hsk =>
      obtain rfl := Option.some.inj ho
      exact wp_move (.tmp 0) rfl _ ((hout 0 (by kernel_rfl)).trans rfl) ⟨_, rfl, tq_is _ _ _ _ rfl, Kept.refl _ _, fun _ _ _ _ _ => trivial⟩
    | 5, ho, hsk =>
      obtain rfl := Option.some.inj ho
      have e0 : a'.eval (.tmp 52) = P0 b := is_tq (hin 4 52 (by kernel_rfl) (by kernel_rfl)) rfl
      exact o_nil (.tmp 52) rfl _ e0 ⟨_, rfl, tq_is _ _ _ _ rfl, Kept.refl _ _, fun _ _ _ _ _ => trivial⟩
    | 6, ho, hsk =>
      obtain rfl := Option.some.inj ho
      have e0 : a'.eval (.tmp 53) = P0 b := is_tq (hin 5 53 (by kernel_rfl) (by kernel_rfl)) rfl
      exact o_fld79_1 (.tmp 53) rfl b 0 e0 ⟨_, rfl, tq_is _ _ _ _ rfl, Kept.refl _ _, fun _ _ _ _ _ => trivial⟩
    | 7, ho, hsk =>
      obtain rfl := Option.some.inj ho
      have e0 : a'.eval (.tmp 54) = .pointer (some ⟨b, 0 + 1, none⟩) := is_tq (hin 6 54 (by kernel_rfl) (by kernel_rfl)) rfl
      exact o_load3 (.tmp 54) rfl _ _ e0 ((((unhide M).step hk2).at 0 _ rfl).p) ⟨_, rfl, tq_is _ _ _ _ rfl, Kept.refl _ _, fun _ _ _ _ _ => trivial⟩
    | 8, ho, hsk =>
      obtain rfl := Option.some.inj ho
      have e0 : a'.eval (.tmp 51) = .int .i64 (Lk.mk true lx 0).age := is_tq (hin 3 51 (by kernel_rfl) (by kernel_rfl)) rfl
      have e1 : a'.eval (.tmp 55) = .int .i64 v.p := is_tq (hin 7 55 (by kernel_rfl) (by kernel_rfl)) rfl
      exact o_geq3 (.tmp 51) (.tmp 55) rfl _ _ _ rfl e0 e1 ⟨_, rfl, tq_is _ _ _ _ rfl, Kept.refl _ _, fun _ _ _ _ _ => trivial⟩
    | 9, ho, hsk =>
      obtain rfl := Option.some.inj ho
      have e0 : a'.eval (.tmp 56) = .bool (decide (v.p ≤ (Lk.mk true lx 0).age)) := is_tq (hin 8 56 (by kernel_rfl) (by kernel_rfl)) rfl
      exact wp_assignV (.tmp 56) rfl _ e0 ⟨_, rfl, tq_is _ _ _ _ rfl, Kept.refl _ _, fun _ _ _ _ _ => trivial⟩
    | 10, ho, hsk =>
      obtain rfl := Option.some.inj ho
      exact wp_assignV _ rfl _ rfl ⟨_, rfl, tq_is _ _ _ _ rfl, Kept.refl _ _, fun _ _ _ _ _ => trivial⟩
  intro w8 hk8
  replace hk8 : Kept [] W21 w8 := ⟨hk8.os, hk8.tape, hk8.output, hk8.size, hk8.block⟩
  simp only [valsQ, List.map_cons, List.map_nil, Option.getD_some, List.take_succ_cons, List.take_zero, putAll, Act.put, List.setIfInBounds_toArray, List.set_cons_succ, List.set_cons_zero]
  refine wpAny_done (by kernel_rfl) ?_ _
  go_wp2_with fail
  go_ret2
  have h9 := (unhide M).step hk8
  exact ⟨rfl, h9.at 0 _ rfl, h9.kept⟩
set_option maxHeartbeats 2000000 in
theorem rlook_e {A : Int} (v : Wt) (b : Nat) (m : Int) (lx : Le) (w : World) (hB : Blk w b 79 v.C) (hv : v.Ok A) (hh : v.has m = true) (hm : lx.may = true) (his : (v.lk m).is = true) (hq : decide ((v.lk m).said = lx) = true) (hA : 0 ≤ A ∧ A ≤ 1000000) : Calls Try.prog 31 #[P0 b, .int .i64 m, aggV lx.C] w fun e w' => e = .returned (.tuple #[.bool (decide (v.p ≤ (Lk.mk true lx ((v.lk m).age + 1)).age)), .int .i64 0]) ∧ Blk w' b 79 (v.put m (Lk.mk true lx ((v.lk m).age + 1))).C ∧ Kept [b] w w' := by
  have P44 : ∀ W, Blk W b 79 v.C → Hid (Calls Try.prog 44 #[P0 b, .int .i64 m] W fun e w' => e = .returned (.bool true) ∧ w' = W) := fun W hW => hide (by have := in44 v b m W hW; rw [hh] at this; exact this)
  have P12 : ∀ W, Hid (Calls Try.prog 12 #[aggV lx.C] W fun e w' => e = .returned (.bool true) ∧ Kept [] W w') := fun W => hide (by have := rmay12 lx W; rw [hm] at this; exact this)
  obtain ⟨m0, m8⟩ := has_lt hv hh
  have m8n : m.toNat < 8 := by omega
  obtain ⟨a0, a1⟩ := lk_age hv hA.1 m
  obtain ⟨A0, A1⟩ := hA
  have HS : Hid (v.C.set (2 + m.toNat * 5 + 4) (.int .i64 ((v.lk m).age + 1)) = (v.put m (Lk.mk true lx ((v.lk m).age + 1))).C) := by
    show _ = _
    rw [wtC_setAge hv.len m8n _ (lk_at hv hh), his, of_decide_eq_true hq]
  go_enter Try.func31, Try.ntmps31
  have M : Hid (Mm [b] w w [(b, 79, v.C)]) := hide (Mm.one hB)
  go_wp2_with (
    first
    | (refine wpBoxV rfl (.tmp 2) rfl (lx.C) rfl ?_
       intro W1 b1 e1 B1 K1
       replace M : Hid (Mm [b] w W1 [(b, 79, v.C), (b1, 23, lx.C)]) := hide ((unhide M).new e1 B1 K1)
       clear e1 B1 K1
       refine Stp.go ?_))
  constructor
  go_wp2_with (
    first
    | (go_at_call 44
       refine (unhide (P44 _ ((unhide M).at 0 _ rfl))).mono ?_
       rintro e W2 ⟨rfl, q2⟩
       replace q2 := q2.symm
       subst q2
       refine Stp.go ?_))
  constructor
  go_wp2_with (
    first
    | (refine wpLoadG row23 (.tmp 5) rfl rfl b1 0 rfl (lx.C) rfl ((unhide M).at 1 _ rfl).range ?_
       refine Stp.go ?_))
  constructor
  go_wp2_with (
    first
    | (go_at_call 12
       refine (unhide (P12 _)).mono ?_
       rintro e W3 ⟨rfl, K3⟩
       replace M : Hid (Mm [b] w W3 [(b, 79, v.C), (b1, 23, lx.C)]) := hide ((unhide M).step K3)
       clear K3
       refine Stp.go ?_))
  constructor
  go_wp2_with fail
  refine wp_region_any mixed (wpAny_tq 12 rfl (by kernel_rfl) [some (.pointer (some ⟨b, 2 + m.toNat * 5, none⟩)), some (.pointer (some ⟨b, 2 + m.toNat * 5, none⟩)), some (.pointer (some ⟨b, 2 + m.toNat * 5, none⟩)), some (.bool true), some (.bool true), some (.pointer (some ⟨b, 2 + m.toNat * 5, none⟩)), some (.pointer (some ⟨b, 2 + m.toNat * 5, none⟩)), some (.pointer (some ⟨b, 2 + m.toNat * 5 + 1, none⟩)), some (aggV (v.lk m).said.C), some (aggV lx.C), some (.bool true), some (.bool true)] rfl (by kernel_rfl) (by kernel_rfl) ?_ ?_)
  · intro i o' hi hsk ho a' w2 hout hin hk2
    replace hk2 : Kept [] W3 w2 := ⟨hk2.os, hk2.tape, hk2.output, hk2.size, hk2.block⟩
    match i, ho, hsk with
    | 0, ho, hsk =>
      obtain rfl := Option.some.inj ho
      exact wp_move (.tmp 8) rfl _ ((hout 8 (by kernel_rfl)).trans rfl) ⟨_, rfl, tq_is _ _ _ _ rfl, Kept.refl _ _, fun _ _ _ _ _ => trivial⟩
    | 1, ho, hsk =>
      obtain rfl := Option.some.inj ho
      have e0 : a'.eval (.tmp 25) = .pointer (some ⟨b, 2 + m.toNat * 5, none⟩) := is_tq (hin 0 25 (by kernel_rfl) (by kernel_rfl)) rfl
      exact o_nil (.tmp 25) rfl _ e0 ⟨_, rfl, tq_is _ _ _ _ rfl, Kept.refl _ _, fun _ _ _ _ _ => trivial⟩
    | 2, ho, hsk =>
      obtain rfl := Option.some.inj ho
      have e0 : a'.eval (.tmp 26) = .pointer (some ⟨b, 2 + m.toNat * 5, none⟩) := is_tq (hin 1 26 (by kernel_rfl) (by kernel_rfl)) rfl
      exact o_fld76_0 (.tmp 26) rfl b _ e0 ⟨_, rfl, tq_is _ _ _ _ rfl, Kept.refl _ _, fun _ _ _ _ _ => trivial⟩
    | 3, ho, hsk =>
      obtain rfl := Option.some.inj ho
      have e0 : a'.eval (.tmp 27) = .pointer (some ⟨b, 2 + m.toNat * 5, none⟩) := is_tq (hin 2 27 (by kernel_rfl) (by kernel_rfl)) rfl
      exact o_load4 (.tmp 27) rfl _ _ e0 (by rw [← his]; exact fits_cell (((unhide M).step hk2).at 0 _ rfl) _ _ (wtC_at (lk_at hv hh) 0 (by omega))) ⟨_, rfl, tq_is _ _ _ _ rfl, Kept.refl _ _, fun _ _ _ _ _ => trivial⟩
    | 4, ho, hsk =>
      obtain rfl := Option.some.inj ho
      have e0 : a'.eval (.tmp 28) = .bool true := is_tq (hin 3 28 (by kernel_rfl) (by kernel_rfl)) rfl
      exact wp_move (.tmp 28) rfl _ e0 ⟨_, rfl, tq_is _ _ _ _ rfl, Kept.refl _ _, fun _ _ _ _ _ => trivial⟩
    | 5, ho, hsk =>
      obtain rfl := Option.some.inj ho
      exact wp_move (.tmp 8) rfl _ ((hout 8 (by kernel_rfl)).trans rfl) ⟨_, rfl, tq_is _ _ _ _ rfl, Kept.refl _ _, fun _ _ _ _ _ => trivial⟩
    | 6, ho, hsk =>
      obtain rfl := Option.some.inj ho
      have e0 : a'.eval (.tmp 30) = .pointer (some ⟨b, 2 + m.toNat * 5, none⟩) := is_tq (hin 5 30 (by kernel_rfl) (by kernel_rfl)) rfl
      exact o_nil (.tmp 30) rfl _ e0 ⟨_, rfl, tq_is _ _ _ _ rfl, Kept.refl _ _, fun _ _ _ _ _ => trivial⟩
    | 7, ho, hsk =>
      obtain rfl := Option.some.inj ho
      have e0 : a'.eval (.tmp 31) = .pointer (some ⟨b, 2 + m.toNat * 5, none⟩) := is_tq (hin 6 31 (by kernel_rfl) (by kernel_rfl)) rfl
      exact o_fld76_1 (.tmp 31) rfl b _ e0 ⟨_, rfl, tq_is _ _ _ _ rfl, Kept.refl _ _, fun _ _ _ _ _ => trivial⟩
    | 8, ho, hsk =>
      obtain rfl := Option.some.inj ho
      have e0 : a'.eval (.tmp 32) = .pointer (some ⟨b, 2 + m.toNat * 5 + 1, none⟩) := is_tq (hin 7 32 (by kernel_rfl) (by kernel_rfl)) rfl
      exact wp_loadA row23 (.tmp 32) rfl b _ e0 (v.lk m).said.C rfl ((((unhide M).step hk2).at 0 _ rfl).rangeIn _ (fun j hj => by rw [Nat.add_assoc]; exact (wtC_at (lk_at hv hh) (1 + j) (by have h7 : j < 3 := hj; omega)).trans (said_in _ j hj))) ⟨_, rfl, tq_is _ _ _ _ rfl, Kept.refl _ _, fun _ _ _ _ _ => trivial⟩
    | 9, ho, hsk =>
      obtain rfl := Option.some.inj ho
      exact wp_loadA row23 (.tmp 5) rfl b1 0 ((hout 5 (by kernel_rfl)).trans rfl) lx.C rfl (((unhide M).step hk2).at 1 _ rfl).range ⟨_, rfl, tq_is _ _ _ _ rfl, Kept.refl _ _, fun _ _ _ _ _ => trivial⟩
    | 10, ho, hsk =>
      obtain rfl := Option.some.inj ho
      have e0 : a'.eval (.tmp 33) = aggV (v.lk m).said.C := is_tq (hin 8 33 (by kernel_rfl) (by kernel_rfl)) rfl
      have e1 : a'.eval (.tmp 34) = aggV lx.C := is_tq (hin 9 34 (by kernel_rfl) (by kernel_rfl)) rfl
      exact o_eqlA 23 23 guard23 (.tmp 33) (.tmp 34) rfl (v.lk m).said.C lx.C e0 e1 true ((eqL23 _ _ _).trans (by rw [hq])) ⟨_, rfl, tq_is _ _ _ _ rfl, Kept.refl _ _, fun _ _ _ _ _ => trivial⟩
    | 11, ho, hsk =>
      obtain rfl := Option.some.inj ho
      have e0 : a'.eval (.tmp 29) = .bool true := is_tq (hin 4 29 (by kernel_rfl) (by kernel_rfl)) rfl
      have e1 : a'.eval (.tmp 35) = .bool true := is_tq (hin 10 35 (by kernel_rfl) (by kernel_rfl)) rfl
      exact o_pick (.tmp 29) (.tmp 35) rfl _ e0 e1 ⟨_, rfl, tq_is _ _ _ _ rfl, Kept.refl _ _, fun _ _ _ _ _ => trivial⟩
  intro w9 hk9
  replace hk9 : Kept [] W3 w9 := ⟨hk9.os, hk9.tape, hk9.output, hk9.size, hk9.block⟩
  simp only [valsQ, List.map_cons, List.map_nil, Option.getD_some, List.take_succ_cons, List.take_zero, putAll, Act.put, List.setIfInBounds_toArray, List.set_cons_succ, List.set_cons_zero]
  refine wpAny_done (by kernel_rfl) ?_ _
  replace M : Hid (Mm [b] w w9 [(b, 79, v.C), (b1, 23, lx.C)]) := hide ((unhide M).step hk9)
  clear hk9
  have c4 := ((unhide M).at 0 _ rfl).age hv hh
  go_wp2_with (
    first
    | (refine wpStoreMT size3 rfl (.tmp 43) (.tmp 41) rfl rfl b (2 + m.toNat * 5 + 4) 0 (.int .i64 ((v.lk m).age + 1)) ⟨rfl, rfl⟩ rfl rfl (unhide M) (v.put m (Lk.mk true lx ((v.lk m).age + 1))).C rfl (by rw [wtC_len hv.len]; omega) (unhide HS) ?_
       intro W21 N21
       replace M : Hid (Mm [b] w W21 [(b, 79, (v.put m (Lk.mk true lx ((v.lk m).age + 1))).C), (b1, 23, lx.C)]) := hide N21
       clear N21
       clear c4
       refine Stp.go ?_))
  constructor
  go_wp2_with fail
  refine wp_region_any mixed (wpAny_tq 11 rfl (by kernel_rfl) [some (.pointer (some ⟨b, 2 + m.toNat * 5, none⟩)), some (.pointer (some ⟨b, 2 + m.toNat * 5, none⟩)), some (.pointer (some ⟨b, 2 + m.toNat * 5 + 4, none⟩)), some (.int .i64 (Lk.mk true lx ((v.lk m).age + 1)).age), some (P0 b), some (P0 b), some (.pointer (some ⟨b, 0 + 1, none⟩)), some (.int .i64 v.p), some (.bool (decide (v.p ≤ (Lk.mk true lx ((v.lk m).age + 1)).age))), some (.bool (decide (v.p ≤ (Lk.mk true lx ((v.lk m).age + 1)).age))), some (.int .i64 0)] rfl (by kernel_rfl) (by kernel_rfl) ?_ ?_)
  · intro i o' hi hsk ho a' w2 hout hin hk2
    replace hk2 : Kept [] W21 w2 := ⟨hk2.os, hk2.tape, hk2.output, hk2.size, hk2.block⟩
    match i, ho, hsk with
    | 0, ho, hsk =>
      obtain rfl := Option.some.inj ho
      exact wp_move (.tmp 8) rfl _ ((hout 8 (by kernel_rfl)).trans rfl) ⟨_, rfl, tq_is _ _ _ _ rfl, Kept.refl _ _, fun _ _ _ _ _ => trivial⟩
    | 1, ho, hsk =>
      obtain rfl := Option.some.inj ho
      have e0 : a'.eval (.tmp 48) = .pointer (some ⟨b, 2 + m.toNat * 5, none⟩) := is_tq (hin 0 48 (by kernel_rfl) (by kernel_rfl)) rfl
      exact o_nil (.tmp 48) rfl _ e0 ⟨_, rfl, tq_is _ _ _ _ rfl, Kept.refl _ _, fun _ _ _ _ _ => trivial⟩
    | 2, ho, hsk =>
      obtain rfl := Option.some.inj ho
      have e0 : a'.eval (.tmp 49) = .pointer (some ⟨b, 2 + m.toNat * 5, none⟩) := is_tq (hin 1 49 (by kernel_rfl) (by kernel_rfl)) rfl
      exact o_fld76_2 (.tmp 49) rfl b _ e0 ⟨_, rfl, tq_is _ _ _ _ rfl, Kept.refl _ _, fun _ _ _ _ _ => trivial⟩
    | 3, ho, hsk =>
      obtain rfl := Option.some.inj ho
      have e0 : a'.eval (.tmp 50) = .pointer (some ⟨b, 2 + m.toNat * 5 + 4, none⟩) := is_tq (hin 2 50 (by kernel_rfl) (by kernel_rfl)) rfl
      exact o_load3 (.tmp 50) rfl _ _ e0 (fits_cell (((unhide M).step hk2).at 0 _ rfl) _ _ (wtC_at (put_at hv m8n) 4 (by omega))) ⟨_, rfl, tq_is _ _ _ _ rfl, Kept.refl _ _, fun _ _ _ _ _ => trivial⟩
    | 4, ho, hsk =>
      obtain rfl := Option.some.inj ho
      exact wp_move (.tmp 0) rfl _ ((hout 0 (by kernel_rfl)).trans rfl) ⟨_, rfl, tq_is _ _ _ _ rfl, Kept.refl _ _, fun _ _ _ _ _ => trivial⟩
    | 5, ho, hsk =>
      obtain rfl := Option.some.inj ho
      have e0 : a'.eval (.tmp 52) = P0 b := is_tq (hin 4 52 (by kernel_rfl) (by kernel_rfl)) rfl
      exact o_nil (.tmp 52) rfl _ e0 ⟨_, rfl, tq_is _ _ _ _ rfl, Kept.refl _ _, fun _ _ _ _ _ => trivial⟩
    | 6, ho, hsk =>
      obtain rfl := Option.some.inj ho
      have e0 : a'.eval (.tmp 53) = P0 b := is_tq (hin 5 53 (by kernel_rfl) (by kernel_rfl)) rfl
      exact o_fld79_1 (.tmp 53) rfl b 0 e0 ⟨_, rfl, tq_is _ _ _ _ rfl, Kept.refl _ _, fun _ _ _ _ _ => trivial⟩
    | 7, ho, hsk =>
      obtain rfl := Option.some.inj ho
      have e0 : a'.eval (.tmp 54) = .pointer (some ⟨b, 0 + 1, none⟩) := is_tq (hin 6 54 (by kernel_rfl) (by kernel_rfl)) rfl
      exact o_load3 (.tmp 54) rfl _ _ e0 ((((unhide M).step hk2).at 0 _ rfl).p) ⟨_, rfl, tq_is _ _ _ _ rfl, Kept.refl _ _, fun _ _ _ _ _ => trivial⟩
    | 8, ho, hsk =>
      obtain rfl := Option.some.inj ho
      have e0 : a'.eval (.tmp 51) = .int .i64 (Lk.mk true lx ((v.lk m).age + 1)).age := is_tq (hin 3 51 (by kernel_rfl) (by kernel_rfl)) rfl
      have e1 : a'.eval (.tmp 55) = .int .i64 v.p := is_tq (hin 7 55 (by kernel_rfl) (by kernel_rfl)) rfl
      exact o_geq3 (.tmp 51) (.tmp 55) rfl _ _ _ rfl e0 e1 ⟨_, rfl, tq_is _ _ _ _ rfl, Kept.refl _ _, fun _ _ _ _ _ => trivial⟩
    | 9, ho, hsk =>
      obtain rfl := Option.some.inj ho
      have e0 : a'.eval (.tmp 56) = .bool (decide (v.p ≤ (Lk.mk true lx ((v.lk m).age + 1)).age)) := is_tq (hin 8 56 (by kernel_rfl) (by kernel_rfl)) rfl
      exact wp_assignV (.tmp 56) rfl _ e0 ⟨_, rfl, tq_is _ _ _ _ rfl, Kept.refl _ _, fun _ _ _ _ _ => trivial⟩
    | 10, ho, hsk =>
      obtain rfl := Option.some.inj ho
      exact wp_assignV _ rfl _ rfl ⟨_, rfl, tq_is _ _ _ _ rfl, Kept.refl _ _, fun _ _ _ _ _ => trivial⟩
  intro w8 hk8
  replace hk8 : Kept [] W21 w8 := ⟨hk8.os, hk8.tape, hk8.output, hk8.size, hk8.block⟩
  simp only [valsQ, List.map_cons, List.map_nil, Option.getD_some, List.take_succ_cons, List.take_zero, putAll, Act.put, List.setIfInBounds_toArray, List.set_cons_succ, List.set_cons_zero]
  refine wpAny_done (by kernel_rfl) ?_ _
  go_wp2_with fail
  go_ret2
  have h9 := (unhide M).step hk8
  exact ⟨rfl, h9.at 0 _ rfl, h9.kept⟩
theorem rlook31 {A : Int} (v : Wt) (b : Nat) (m : Int) (lx : Le) (w : World) (hB : Blk w b 79 v.C) (hv : v.Ok A) (hA : 0 ≤ A ∧ A ≤ 1000000) : Calls Try.prog 31 #[P0 b, .int .i64 m, aggV lx.C] w fun e w' => e = .returned (.tuple #[.bool (v.look m lx).2.1, .int .i64 (v.look m lx).2.2]) ∧ Blk w' b 79 (v.look m lx).1.C ∧ Kept [b] w w' := by
  unfold Wt.look
  cases hh : v.has m with
  | false => rw [if_pos (by simp)]; exact rlook_a v b m lx w hB hv hh
  | true =>
    cases hm : lx.may with
    | false => rw [if_pos (by simp)]; exact rlook_b v b m lx w hB hv hh hm
    | true =>
      rw [if_neg (by simp)]
      unfold Wt.see
      cases his : (v.lk m).is with
      | false => rw [if_neg (by simp)]; exact rlook_c v b m lx w hB hv hh hm his
      | true =>
        by_cases hq : (v.lk m).said = lx
        · rw [if_pos ⟨rfl, hq⟩]; exact rlook_e v b m lx w hB hv hh hm his (by simpa using hq) hA
        · rw [if_neg (by simp [hq])]; exact rlook_d v b m lx w hB hv hh hm his (by simpa using hq)

end Go.Proofs.Ythidiolgngkffaa

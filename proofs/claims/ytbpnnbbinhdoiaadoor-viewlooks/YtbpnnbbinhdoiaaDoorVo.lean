/-
  Is, and the document's Master.
-/
import Derived.Test.YtbpnnbbinhdoiaaDoorVn
namespace Go.Proofs.YtbpnnbbinhdoiaaDoor
set_option maxRecDepth 100000
open Go.RowKit


def Vw.is (v : Vw) (n e : Int) : Bool := v.may && (v.isIn n && decide ((v.mem n).2 = e))
theorem wpRemI {ops : Array Oper} {rest : List Oper} {op : Oper} {a : Act} {w : World} {Q : Exit → Act → World → Prop} (hgd : op.guard = none) (x y : Operand) (ho : op.op = .binOp .rem 3 x y 3) (m n r : Int) (hr : r = m % n) (hm : 0 ≤ m ∧ m ≤ 9223372036854775807) (hn : 1 ≤ n ∧ n ≤ 8) (hx : a.eval x = .int .i64 m) (hy : a.eval y = .int .i64 n)
    (h : wpList Tryd.prog ops Q rest (a.put op.dst (.int .i64 r)) w) : wpList Tryd.prog ops Q (op :: rest) a w :=
  wpList_plain hgd fun _ hK => o_remI x y ho m n r hr hm hn hx hy (hK _ _ h)
set_option maxHeartbeats 2000000 in
theorem is_a (v : Vw) (n e : Int) (w : World) (hF : First w) (hv : v.ms.length = 8) (hm : v.may = false) : Calls Tryd.prog 25 #[aggV (vwC v), .int .i64 n, .int .i64 e] w fun x w' => x = .returned (.bool false) ∧ Kept [] w w' := by
  have P12 : ∀ W, First W → Hid (Calls Tryd.prog 12 #[aggV (vwC v)] W fun e w' => e = .returned (.bool false) ∧ Kept [] W w') := fun W hW => hide (by have := may12 v W hW hv; rw [hm] at this; exact this)
  go_enter Tryd.func25, Tryd.ntmps25
  have M : Hid (Mm w w []) := hide (Mm.init hF)
  go_wp2_with (
    first
    | (refine wpBoxV rfl (.tmp 0) rfl (vwC v) rfl ?_
       intro W1 b1 e1 B1 K1
       replace M : Hid (Mm w W1 [(b1, 26, vwC v)]) := hide ((unhide M).new e1 B1 K1)
       clear e1 B1 K1
       refine Stp.go ?_))
  constructor
  go_wp2_with (
    first
    | (refine wpLoadA row26 rfl (.tmp 3) rfl b1 0 rfl (vwC v) (vwC_len hv) ((unhide M).at 0 _ rfl).range ?_
       refine Stp.go ?_))
  constructor
  go_wp2_with (
    first
    | (go_at_call 12
       refine (unhide (P12 _ (unhide M).first)).mono ?_
       rintro e W2 ⟨rfl, K2⟩
       replace M : Hid (Mm w W2 [(b1, 26, vwC v)]) := hide ((unhide M).step K2)
       clear K2
       refine Stp.go ?_))
  constructor
  go_wp2_with fail
  go_ret
  exact ⟨rfl, (unhide M).kept⟩
set_option maxHeartbeats 2000000 in
theorem is_b (v : Vw) (n e : Int) (w : World) (hF : First w) (hv : v.ms.length = 8) (hm : v.may = true) (hi : v.isIn n = false) : Calls Tryd.prog 25 #[aggV (vwC v), .int .i64 n, .int .i64 e] w fun x w' => x = .returned (.bool false) ∧ Kept [] w w' := by
  have P12 : ∀ W, First W → Hid (Calls Tryd.prog 12 #[aggV (vwC v)] W fun e w' => e = .returned (.bool true) ∧ Kept [] W w') := fun W hW => hide (by have := may12 v W hW hv; rw [hm] at this; exact this)
  have P35 : ∀ W, Hid (Calls Tryd.prog 35 #[aggV (vwC v), .int .i64 n] W fun e w' => e = .returned (.bool false) ∧ Kept [] W w') := fun W => hide (by have := isIn35 v n W hv; rw [hi] at this; exact this)
  go_enter Tryd.func25, Tryd.ntmps25
  have M : Hid (Mm w w []) := hide (Mm.init hF)
  go_wp2_with (
    first
    | (refine wpBoxV rfl (.tmp 0) rfl (vwC v) rfl ?_
       intro W1 b1 e1 B1 K1
       replace M : Hid (Mm w W1 [(b1, 26, vwC v)]) := hide ((unhide M).new e1 B1 K1)
       clear e1 B1 K1
       refine Stp.go ?_))
  constructor
  go_wp2_with (
    first
    | (refine wpLoadA row26 rfl (.tmp 3) rfl b1 0 rfl (vwC v) (vwC_len hv) ((unhide M).at 0 _ rfl).range ?_
       refine Stp.go ?_))
  constructor
  go_wp2_with (
    first
    | (go_at_call 12
       refine (unhide (P12 _ (unhide M).first)).mono ?_
       rintro e W2 ⟨rfl, K2⟩
       replace M : Hid (Mm w W2 [(b1, 26, vwC v)]) := hide ((unhide M).step K2)
       clear K2
       refine Stp.go ?_))
  constructor
  go_wp2_with (
    first
    | (refine wpLoadG row26 (.tmp 3) rfl rfl b1 0 rfl (vwC v) (vwC_len hv) ((unhide M).at 0 _ rfl).range ?_
       refine Stp.go ?_))
  constructor
  go_wp2_with (
    first
    | (go_at_call 35
       refine (unhide (P35 _)).mono ?_
       rintro e W3 ⟨rfl, K3⟩
       replace M : Hid (Mm w W3 [(b1, 26, vwC v)]) := hide ((unhide M).step K3)
       clear K3
       refine Stp.go ?_))
  constructor
  go_wp2_with fail
  go_ret
  exact ⟨rfl, (unhide M).kept⟩
set_option maxHeartbeats 2000000 in
theorem is_c (v : Vw) (n e : Int) (w : World) (hF : First w) (hv : v.ms.length = 8) (hm : v.may = true) (hi : v.isIn n = true) : Calls Tryd.prog 25 #[aggV (vwC v), .int .i64 n, .int .i64 e] w fun x w' => x = .returned (.bool (decide ((v.mem n).2 = e))) ∧ Kept [] w w' := by
  have P12 : ∀ W, First W → Hid (Calls Tryd.prog 12 #[aggV (vwC v)] W fun e w' => e = .returned (.bool true) ∧ Kept [] W w') := fun W hW => hide (by have := may12 v W hW hv; rw [hm] at this; exact this)
  have P35 : ∀ W, Hid (Calls Tryd.prog 35 #[aggV (vwC v), .int .i64 n] W fun e w' => e = .returned (.bool true) ∧ Kept [] W w') := fun W => hide (by have := isIn35 v n W hv; rw [hi] at this; exact this)
  have hn9 : 0 ≤ n ∧ n < 8 := by simp [Vw.isIn, isNo] at hi; omega
  obtain ⟨n0, n8⟩ := hn9
  go_enter Tryd.func25, Tryd.ntmps25
  have M : Hid (Mm w w []) := hide (Mm.init hF)
  go_wp2_with (
    first
    | (refine wpBoxV rfl (.tmp 0) rfl (vwC v) rfl ?_
       intro W1 b1 e1 B1 K1
       replace M : Hid (Mm w W1 [(b1, 26, vwC v)]) := hide ((unhide M).new e1 B1 K1)
       clear e1 B1 K1
       refine Stp.go ?_))
  constructor
  go_wp2_with (
    first
    | (refine wpLoadA row26 rfl (.tmp 3) rfl b1 0 rfl (vwC v) (vwC_len hv) ((unhide M).at 0 _ rfl).range ?_
       refine Stp.go ?_))
  constructor
  go_wp2_with (
    first
    | (go_at_call 12
       refine (unhide (P12 _ (unhide M).first)).mono ?_
       rintro e W2 ⟨rfl, K2⟩
       replace M : Hid (Mm w W2 [(b1, 26, vwC v)]) := hide ((unhide M).step K2)
       clear K2
       refine Stp.go ?_))
  constructor
  go_wp2_with (
    first
    | (refine wpLoadG row26 (.tmp 3) rfl rfl b1 0 rfl (vwC v) (vwC_len hv) ((unhide M).at 0 _ rfl).range ?_
       refine Stp.go ?_))
  constructor
  go_wp2_with (
    first
    | (go_at_call 35
       refine (unhide (P35 _)).mono ?_
       rintro e W3 ⟨rfl, K3⟩
       replace M : Hid (Mm w W3 [(b1, 26, vwC v)]) := hide ((unhide M).step K3)
       clear K3
       obtain ⟨m0, m1⟩ := Blk.mem ((unhide M).at 0 _ rfl) hv n0 n8
       refine Stp.go ?_))
  constructor
  go_wp2_with fail
  go_ret
  exact ⟨ret_bool (by simp), (unhide M).kept⟩
theorem is25 (v : Vw) (n e : Int) (w : World) (hF : First w) (hv : v.ms.length = 8) : Calls Tryd.prog 25 #[aggV (vwC v), .int .i64 n, .int .i64 e] w fun x w' => x = .returned (.bool (v.is n e)) ∧ Kept [] w w' := by
  unfold Vw.is
  cases hm : v.may with
  | false => exact is_a v n e w hF hv hm
  | true =>
    cases hi : v.isIn n with
    | false => exact is_b v n e w hF hv hm hi
    | true => rw [Bool.true_and, Bool.true_and]; exact is_c v n e w hF hv hm hi
theorem res24 (w : World) (m : Value) (b : Value) (tmps : Array Value) (h4 : tmps[4]?.getD undef = m) (h5 : tmps[5]?.getD undef = b) : (results Tryd.f24 tmps).run Tryd.prog w = .ok (.tuple #[m, b]) w := by
  simp [results, Tryd.results24, h4, h5]
set_option maxHeartbeats 2000000 in
theorem rmaster_a (v : Vw) (page : Int) (w : World) (hF : First w) (hv : v.ms.length = 8) (N : Nat) (hN : v.list.length = N) (h0 : N = 0) : Calls Tryd.prog 24 #[aggV (vwC v), .int .i64 page] w fun x w' => x = .returned (.tuple #[.int .i64 0, .bool false]) ∧ Kept [] w w' := by
  have P22 : ∀ W, First W → Hid (Calls Tryd.prog 22 #[aggV (vwC v)] W fun e w' => ∃ u, e = .returned u ∧ Ints w' W.heap.size u (v.list.map (fun x => (x.1 : Int))) ∧ Kept [] W w') := fun W hW => hide (list22 v W hW hv)
  have hd0 : ((N : Int) == 0) = true := by simp; omega
  clear h0
  go_enter Tryd.func24, Tryd.ntmps24
  have M : Hid (Mm w w []) := hide (Mm.init hF)
  go_wp2_with (
    first
    | (refine wpBoxV rfl (.tmp 0) rfl (vwC v) rfl ?_
       intro W1 b1 e1 B1 K1
       replace M : Hid (Mm w W1 [(b1, 26, vwC v)]) := hide ((unhide M).new e1 B1 K1)
       clear e1 B1 K1
       refine Stp.go ?_))
  constructor
  go_wp2_with (
    first
    | (refine wpLoadA row26 rfl (.tmp 2) rfl b1 0 rfl (vwC v) (vwC_len hv) ((unhide M).at 0 _ rfl).range ?_
       refine Stp.go ?_))
  constructor
  go_wp2_with (
    first
    | (go_at_call 22
       refine (unhide (P22 _ (unhide M).first)).mono ?_
       rintro e W2 ⟨u, rfl, hI, K2⟩
       replace M : Hid (Mm w W2 [(b1, 26, vwC v)]) := hide ((unhide M).step K2)
       obtain ⟨ao, c, rfl⟩ := hI.sl
       rw [List.length_map, show v.list.length = N from hN]
       clear K2 hI
       refine Stp.go ?_))
  constructor
  go_wp2_with fail
  refine bodyPost_ret (res24 _ _ _ _ rfl rfl) rfl ?_
  exact ⟨rfl, (unhide M).kept⟩
set_option maxHeartbeats 2000000 in
theorem rmaster_b (v : Vw) (page : Int) (w : World) (hF : First w) (hv : v.ms.length = 8) (N : Nat) (hN : v.list.length = N) (h0 : ¬ N = 0) (hp : page < 0) : Calls Tryd.prog 24 #[aggV (vwC v), .int .i64 page] w fun x w' => x = .returned (.tuple #[.int .i64 0, .bool false]) ∧ Kept [] w w' := by
  have P22 : ∀ W, First W → Hid (Calls Tryd.prog 22 #[aggV (vwC v)] W fun e w' => ∃ u, e = .returned u ∧ Ints w' W.heap.size u (v.list.map (fun x => (x.1 : Int))) ∧ Kept [] W w') := fun W hW => hide (list22 v W hW hv)
  have hd0 : ((N : Int) == 0) = false := by simp; omega
  have hdp : decide (page < 0) = true := by simpa using hp
  clear h0
  go_enter Tryd.func24, Tryd.ntmps24
  have M : Hid (Mm w w []) := hide (Mm.init hF)
  go_wp2_with (
    first
    | (refine wpBoxV rfl (.tmp 0) rfl (vwC v) rfl ?_
       intro W1 b1 e1 B1 K1
       replace M : Hid (Mm w W1 [(b1, 26, vwC v)]) := hide ((unhide M).new e1 B1 K1)
       clear e1 B1 K1
       refine Stp.go ?_))
  constructor
  go_wp2_with (
    first
    | (refine wpLoadA row26 rfl (.tmp 2) rfl b1 0 rfl (vwC v) (vwC_len hv) ((unhide M).at 0 _ rfl).range ?_
       refine Stp.go ?_))
  constructor
  go_wp2_with (
    first
    | (go_at_call 22
       refine (unhide (P22 _ (unhide M).first)).mono ?_
       rintro e W2 ⟨u, rfl, hI, K2⟩
       replace M : Hid (Mm w W2 [(b1, 26, vwC v)]) := hide ((unhide M).step K2)
       obtain ⟨ao, c, rfl⟩ := hI.sl
       rw [List.length_map, show v.list.length = N from hN]
       clear K2 hI
       refine Stp.go ?_))
  constructor
  go_wp2_with fail
  refine bodyPost_ret (res24 _ _ _ _ rfl rfl) rfl ?_
  exact ⟨rfl, (unhide M).kept⟩
set_option maxHeartbeats 2000000 in
theorem rmaster_c (v : Vw) (page : Int) (w : World) (hF : First w) (hv : v.ms.length = 8) (N R mm : Nat) (hN : v.list.length = N) (h0 : ¬ N = 0) (hp : ¬ page < 0) (hp2 : page ≤ 9223372036854775807) (hR : (R : Int) = page % (N : Int)) (hRN : R < N) (hmm : (v.list[R]?.getD (0, 0)).1 = mm) : Calls Tryd.prog 24 #[aggV (vwC v), .int .i64 page] w fun x w' => x = .returned (.tuple #[.int .i64 (mm : Nat), .bool true]) ∧ Kept [] w w' := by
  have P22 : ∀ W, First W → Hid (Calls Tryd.prog 22 #[aggV (vwC v)] W fun e w' => ∃ u, e = .returned u ∧ Ints w' W.heap.size u (v.list.map (fun x => (x.1 : Int))) ∧ Kept [] W w') := fun W hW => hide (list22 v W hW hv)
  have hd0 : ((N : Int) == 0) = false := by simp; omega
  have hdp : decide (page < 0) = false := by simpa using hp
  have h8 := list_len hv
  have HNN : Hid (1 ≤ (N : Int) ∧ (N : Int) ≤ 8) := ⟨by omega, by omega⟩
  have HP : Hid (0 ≤ page ∧ page ≤ 9223372036854775807) := ⟨by omega, hp2⟩
  have HR := hide hR
  have HN := hide hN
  have HX : Hid ((v.list.map (fun x => (x.1 : Int)))[R]? = some (mm : Int)) := by
    show _ = _
    rw [List.getElem?_eq_getElem (by rw [List.length_map]; omega), List.getElem_map]
    rw [List.getElem?_eq_getElem (by omega)] at hmm
    simp at hmm
    rw [hmm]
  have hRI : (R : Int) < (N : Int) := by omega
  clear h0 hN hR hmm h8 hp2
  go_enter Tryd.func24, Tryd.ntmps24
  have M : Hid (Mm w w []) := hide (Mm.init hF)
  go_wp2_with (
    first
    | (refine wpBoxV rfl (.tmp 0) rfl (vwC v) rfl ?_
       intro W1 b1 e1 B1 K1
       replace M : Hid (Mm w W1 [(b1, 26, vwC v)]) := hide ((unhide M).new e1 B1 K1)
       clear e1 B1 K1
       refine Stp.go ?_))
  constructor
  go_wp2_with (
    first
    | (refine wpLoadA row26 rfl (.tmp 2) rfl b1 0 rfl (vwC v) (vwC_len hv) ((unhide M).at 0 _ rfl).range ?_
       refine Stp.go ?_))
  constructor
  go_wp2_with (
    first
    | (go_at_call 22
       refine (unhide (P22 _ (unhide M).first)).mono ?_
       rintro e W2 ⟨u, rfl, hI, K2⟩
       replace M : Hid (Mm w W2 [(b1, 26, vwC v)]) := hide ((unhide M).step K2)
       obtain ⟨gb, c, rfl, hc⟩ := hI.get (unhide HX)
       rw [List.length_map, show v.list.length = N from unhide HN]
       clear K2 hI
       refine Stp.go ?_))
  constructor
  go_wp2_with (
    first
    | (refine wpRemI rfl (.tmp 17) (.tmp 19) rfl page (N : Int) (R : Int) (unhide HR) (unhide HP) (unhide HNN) rfl rfl ?_
       refine Stp.go ?_))
  constructor
  go_wp2_with fail
  refine bodyPost_ret (res24 _ _ _ _ rfl rfl) rfl ?_
  exact ⟨rfl, (unhide M).kept⟩
theorem rmaster24 (v : Vw) (page : Int) (w : World) (hF : First w) (hv : v.ms.length = 8) (hp : I64 page) : Calls Tryd.prog 24 #[aggV (vwC v), .int .i64 page] w fun x w' => x = .returned (.tuple #[.int .i64 (v.master page).1, .bool (v.master page).2]) ∧ Kept [] w w' := by
  unfold Vw.master
  by_cases h2 : v.list.length = 0
  · rw [if_pos (.inr h2)]; exact rmaster_a v page w hF hv _ rfl h2
  by_cases h1 : page < 0
  · rw [if_pos (.inl h1)]; exact rmaster_b v page w hF hv _ rfl h2 h1
  rw [if_neg (by omega)]
  have hm := Int.emod_nonneg page (b := (v.list.length : Int)) (by omega)
  have hl := Int.emod_lt_of_pos page (b := (v.list.length : Int)) (by omega)
  exact rmaster_c v page w hF hv v.list.length (page % (v.list.length : Int)).toNat _ rfl h2 h1 hp.2 (by omega) (by omega) rfl

end Go.Proofs.YtbpnnbbinhdoiaaDoor

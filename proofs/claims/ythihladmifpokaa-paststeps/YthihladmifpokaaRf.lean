/-
  Has, Of, Oldest.
-/
import Derived.Test.YthihladmifpokaaRe
namespace Go.Proofs.Ythihladmifpokaa
set_option maxRecDepth 100000
set_option linter.unusedSimpArgs false
open Go.RowKit Go.Shelf
attribute [local go_sem] Oper.semAt_some

theorem wpBox1 {ops : Array Oper} {rest : List Oper} {op : Oper} {a : Act} {w : World} {Q : Exit → Act → World → Prop} {T : Nat} (hgd : op.guard = none) (x : Operand) (ho : op.op = .box T x) (n : Int) (hx : a.eval x = .int .i64 n)
    (h : ∀ W b, b = w.heap.size → Blk W b T [.int .i64 n] → Kept [] w W → wpList Try.prog ops Q rest (a.put op.dst (P0 b)) W) : wpList Try.prog ops Q (op :: rest) a w :=
  wpList_plain hgd fun _ hK => by
    unfold Oper.wp execOp
    simp only [ho, hx]
    exact hK _ _ (h _ _ rfl (Blk.new w T _) ((Kept.refl _ _).alloc _))

/-- A mark of this page, of this First? -/
def ofP (p : Int) (x : Mk) : Bool := decide (x.p = p)
def ofF (p : Int) (x : Mk) : Bool := decide (x.f = p)
theorem minM_perm (n : Int) {L M : List Mk} (h : L.Perm M) : minM n (fun _ => false) L = minM n (fun _ => false) M := by
  induction h with
  | nil => rfl
  | cons x _ ih => simp [minM, ih]
  | swap x y l => simp [minM]; omega
  | trans _ _ h1 h2 => exact h1.trans h2
/-- The least First; the first mark that has it. -/
def leastF (L : List Mk) : Int := boundP 2147483647 [] L
theorem leastF_perm {L M : List Mk} (h : L.Perm M) : leastF L = leastF M := minM_perm _ h
theorem res20 (w : World) (z : Nat) (vs : List Value) (e : Bool) (tmps : Array Value) (h2 : tmps[2]?.getD undef = P0 z) (h3 : tmps[3]?.getD undef = .bool e) (hl : vs.length = 3) (hb : Blk w z 54 vs) : (results Try.f20 tmps).run Try.prog w = .ok (.tuple #[aggV vs, .bool e]) w := by
  have := loadV row54 hl hb
  simp [results, Try.results20, h2, h3, this, asAddr]
theorem zero2w (w : World) : (Instr.alloc 2 true (.tuple #[])).run Try.prog w = .ok (P0 w.heap.size) (w.alloc (.cells [Value.int .i64 0].toArray 2)) := by kernel_rfl
variable {w W W' : World} {b mb b3 : Nat} {M L : List Mk} {k : Int}
theorem tells37 (h : Blk w b3 3 [.int .i64 k]) : Tells w 37 #[P0 b3] (ofP k) := fun W hk x => clo37 (h.kept hk (by simp)) x
theorem tells44 (h : Blk w b3 3 [.int .i64 k]) : Tells w 44 #[P0 b3] (ofP k) := fun W hk x => clo44 (h.kept hk (by simp)) x
theorem tells40 (h : Blk w b3 2 [.int .i64 k]) : Tells w 40 #[P0 b3] (ofF k) := fun W hk x => clo40 (h.kept hk (by simp)) x
set_option maxHeartbeats 2000000 in
theorem has16 (h : Pg w b mb M) (hp : L.Perm M) (hs : Srt L) : Calls Try.prog 16 #[P0 b, .int .i64 k] w fun e W => e = .returned (.bool (fndB (ofP k) L)) ∧ Kept [] w W := by
  have HP := hide h
  have HPM := hide hp
  have HSL := hide hs
  clear h hp hs
  go_enter Try.func16, Try.ntmps16
  go_wp2_with (
    first
    | (refine wpBox1 rfl (.tmp 1) rfl k rfl ?_
       intro W1 b3 e1 B1 K1
       have HT := hide (tells37 B1)
       have HK := hide K1
       clear e1 B1 K1
       refine Stp.go ?_))
  constructor
  go_wp2_with (
    first
    | (go_at_call 36
       refine (find36 ((unhide HP).step (unhide HK) (by simp) (by simp)) (unhide HPM) (unhide HSL) ent37 (unhide HT)).mono ?_
       rintro e W2 ⟨rfl, K2⟩
       replace HK := hide ((unhide HK).trans K2)
       clear K2 HT
       refine Stp.go ?_))
  constructor
  go_wp2_with (
    first
    | (refine wpNew row54 mk0.C rfl zero54 5 rfl rfl rfl (.tmp 11) rfl rfl rfl (fndM (ofP k) L).C rfl (fndM (ofP k) L).one rfl rfl ?_
       intro W3 y e2 B2 K2
       replace HK := hide ((unhide HK).trans K2)
       clear e2 B2 K2
       refine Stp.go ?_))
  constructor
  go_wp2_with fail
  go_ret
  exact ⟨rfl, unhide HK⟩
set_option maxHeartbeats 2000000 in
theorem of29 (h : Pg w b mb M) (hp : L.Perm M) (hs : Srt L) : Calls Try.prog 29 #[P0 b, .int .i64 k] w fun e W => ∃ v, e = .returned v ∧ Ms W v (L.filter (ofP k)) ∧ (∀ k, v.ownBlock = some k → w.heap.size ≤ k) ∧ Kept [] w W := by
  have HP := hide h
  have HPM := hide hp
  have HSL := hide hs
  clear h hp hs
  go_enter Try.func29, Try.ntmps29
  go_wp2_with (
    first
    | (refine wpBox1 rfl (.tmp 1) rfl k rfl ?_
       intro W1 b3 e1 B1 K1
       have HT := hide (tells44 B1)
       have HK := hide K1
       clear e1 B1 K1
       refine Stp.go ?_))
  constructor
  go_wp2_with (
    first
    | (go_at_call 43
       refine (those43 ((unhide HP).step (unhide HK) (by simp) (by simp)) (unhide HPM) (unhide HSL) ent44 (unhide HT)).mono ?_
       rintro e W2 ⟨v, rfl, M2, O2, K2⟩
       have HM := hide M2
       have HO : Hid (∀ k, v.ownBlock = some k → w.heap.size ≤ k) := fun k hk => Nat.le_trans (unhide HK).size (O2 k hk)
       replace HK := hide ((unhide HK).trans K2)
       clear M2 O2 K2 HT
       refine Stp.go ?_))
  constructor
  go_wp2_with fail
  go_ret
  exact ⟨v, rfl, unhide HM, unhide HO, unhide HK⟩
set_option maxHeartbeats 2000000 in
theorem oldest20 (h : Pg w b mb M) (hp : L.Perm M) (hs : Srt L) : Calls Try.prog 20 #[P0 b] w fun e W => e = .returned (.tuple #[aggV (fndM (ofF (leastF L)) L).C, .bool (fndB (ofF (leastF L)) L)]) ∧ Kept [] w W := by
  have HP := hide h
  have HPM := hide hp
  have HSL := hide hs
  clear h hp hs
  go_enter Try.func20, Try.ntmps20
  go_wp2_with (
    first
    | (refine wpAllocW mk0.C zero54 2 rfl rfl rfl ?_
       intro W1 z e2 B2 K2
       have HZ := hide B2
       have HG : Hid (w.heap.size ≤ z) := by show _ ≤ _; omega
       have HK := hide K2
       clear e2 B2 K2
       refine Stp.go ?_))
  constructor
  go_wp2_with (
    first
    | (go_at_call 15
       refine (bound15 (F := []) ((unhide HP).step (unhide HK) (by simp) (by simp)) (Rw.nil _) 2147483647).mono ?_
       rintro e W2 ⟨rfl, K2⟩
       rw [show boundP 2147483647 [] M = leastF L from (leastF_perm (unhide HPM)).symm]
       replace HK := hide ((unhide HK).trans K2)
       replace HZ := hide ((unhide HZ).kept K2 (by simp))
       clear K2
       refine Stp.go ?_))
  constructor
  go_wp2_with (
    first
    | (refine wpVar (.int .i64 0) (.int .i64 (leastF L)) zero2w (st1 size2 ⟨rfl, rfl⟩) 4 (by rfl) (by rfl) (by rfl) (.tmp 6) (by rfl) (by rfl) (by rfl) (by kernel_rfl) (by rfl) ?_
       intro W3 b3 e2 B2 K2
       have HT := hide (tells40 B2)
       replace HK := hide ((unhide HK).trans K2)
       replace HZ := hide ((unhide HZ).kept K2 (by simp))
       clear e2 B2 K2
       refine Stp.go ?_))
  constructor
  go_wp2_with (
    first
    | (go_at_call 36
       refine (find36 ((unhide HP).step (unhide HK) (by simp) (by simp)) (unhide HPM) (unhide HSL) ent40 (unhide HT)).mono ?_
       rintro e W4 ⟨rfl, K2⟩
       replace HZ := hide ((unhide HZ).kept K2 (by simp))
       replace HK := hide ((unhide HK).trans K2)
       clear K2 HT
       refine Stp.go ?_))
  constructor
  go_wp2_with (
    first
    | (refine wpStoreA row54 rfl (.tmp 2) (.tmp 10) rfl z 0 (fndM (ofF (leastF L)) L).C rfl rfl rfl (fndM (ofF (leastF L)) L).one ((unhide HZ).there (Nat.le_refl _)) ?_
       obtain ⟨W5, hW⟩ : ∃ W, W = W4.setCells z 0 (fndM (ofF (leastF L)) L).C := ⟨_, rfl⟩
       have HB : Hid (Blk W5 z 54 (fndM (ofF (leastF L)) L).C) := by rw [hW]; exact (unhide HZ).put rfl
       have HKF : Hid (Kept [] w W5) := by rw [hW]; exact (unhide HK).fresh (X := [z]) ((Kept.refl _ _).setCells _ _ (by simp)) (fun i hi hl => by simp at hi; have := unhide HG; omega)
       rw [← hW]
       clear hW
       refine Stp.go ?_))
  constructor
  go_wp2_with fail
  refine bodyPost_ret (res20 _ _ _ _ _ rfl rfl rfl (unhide HB)) rfl ?_
  exact ⟨rfl, unhide HKF⟩

end Go.Proofs.Ythihladmifpokaa

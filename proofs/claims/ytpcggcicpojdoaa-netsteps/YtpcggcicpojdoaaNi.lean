/-
  Look, place, Clear.
-/
import Derived.Test.YtpcggcicpojdoaaNh
namespace Go.Proofs.Ytpcggcicpojdoaa
open Go.RowKit


theorem res34 (w : World) (z : Nat) (vs : List Value) (f : Bool) (tmps : Array Value) (hl : vs.length = 4) (h4 : tmps[4]?.getD undef = P0 z) (h5 : tmps[5]?.getD undef = .bool f) (hb : Blk w z 47 vs) : (results Try.f34 tmps).run Try.prog w = .ok (.tuple #[aggV vs, .bool f]) w := by
  have := loadV row47 hl hb
  simp [results, Try.results34, h4, h5, this, asAddr]
section
variable {ops : Array Oper} {rest : List Oper} {op : Oper} {a : Act} {w : World} {Q : Exit → Act → World → Prop}
theorem wpLookL (hgd : op.guard = none) (m x : Operand) (ho : op.op = .lookup 55 m x true) (mb : Nat) (L : List Ltr) (k : Int) (l : Ltr) (f : Bool) (hl : lookL k L = l) (hf : (placeOf k L 0).isSome = f) (hm : a.eval m = .map (some mb)) (hx : a.eval x = .int .i64 k) (hM : MapAt w mb L)
    (h : wpList Try.prog ops Q rest (a.put op.dst (.tuple #[aggV l.C, .bool f])) w) : wpList Try.prog ops Q (op :: rest) a w :=
  wpLook hgd m x ho mb L k hm hx hM (by rw [lookV_C, hl, hf]; exact h)
end
set_option maxHeartbeats 1000000 in
theorem look34 (b mb : Nat) (v : Value) (N : Nn) (k : Int) (w : World) (h : Nt w b mb v N) : Calls Try.prog 34 #[P0 b, .int .i64 k] w fun e w' => ∃ u, e = .returned (.tuple #[aggV ((lookL k N.L).D u), .bool (placeOf k N.L 0).isSome]) ∧ Bod w' u (lookL k N.L).bs ∧ (∀ j, u.ownBlock = some j → w.heap.size ≤ j) ∧ Kept [] w w' := by
  obtain ⟨hb, hs⟩ := h.look k
  obtain ⟨l, hl⟩ : ∃ l, lookL k N.L = l := ⟨_, rfl⟩
  obtain ⟨f, hf⟩ : ∃ f, (placeOf k N.L 0).isSome = f := ⟨_, rfl⟩
  rw [hl] at hb hs ⊢
  rw [hf]
  have PN := hide (fun W (hk : Kept [] w W) => none38 b mb v N W (h.kept0 hk))
  have PO := hide (fun W (hk : Kept [] w W) => own52 l W (hb.kept hk (by simp)) hs)
  have HN := hide h
  have HK := hide (Kept.refl [] w)
  have HL := hide hl
  have HFF := hide hf
  have hCo : ∀ u ∈ l.C, u.oneCell' = true := D_one (l := l) hb.one
  have HC := hide hCo
  clear h hb hl hf hCo
  go_enter Try.func34, Try.ntmps34
  go_wp2_with (
    first
    | (refine wpAllocW zL alloc47 4 (by rfl) (by rfl) (by rfl) ?_
       intro W2 p2 e2 B2 K2
       have HF : Hid (w.heap.size ≤ p2) := by rw [e2]; exact (unhide HK).size
       have HZ := hide B2
       replace HK := hide ((unhide HK).trans K2)
       have hc2 := ((unhide HN).kept0 (unhide HK)).cells.2.2.1
       clear e2 B2 K2
       refine Stp.go ?_))
  constructor
  go_wp2_with (
    first
    | (go_at_call 38
       refine (unhide PN _ (unhide HK)).mono ?_
       rintro e V1 ⟨rfl, hw1⟩
       obtain rfl := hw1.symm
       clear hw1
       refine Stp.go ?_))
  constructor
  go_wp2_with (
    first
    | (refine wpLookL (by rfl) (.tmp 15) (.tmp 16) (by rfl) mb N.L k l f (unhide HL) (unhide HFF) (by kernel_rfl) (by kernel_rfl) ((unhide HN).kept0 (unhide HK)).map ?_
       clear hc2
       refine Stp.go ?_))
  constructor
  go_wp2_with (
    first
    | (refine wpNew row47 zL rfl alloc47 6 (by rfl) (by rfl) (by rfl) (.tmp 18) (by rfl) (by rfl) (by rfl) l.C rfl (unhide HC) (by kernel_rfl) (by kernel_rfl) ?_
       intro W3 p3 e3 B3 K3
       have HB := hide B3
       replace HZ := hide ((unhide HZ).kept K3 (by simp))
       replace HK := hide ((unhide HK).trans K3)
       clear e3 B3 K3
       refine Stp.go ?_))
  constructor
  go_wp2_with (
    first
    | (refine wpLoadA row47 (by rfl) (.tmp 6) (by rfl) p3 0 (by kernel_rfl) l.C rfl (unhide HB).range ?_
       refine Stp.go ?_))
  constructor
  go_wp2_with (
    first
    | (go_at_call 52
       refine (unhide PO _ (unhide HK)).mono ?_
       rintro e W4 ⟨u, rfl, hB, hfr, K4⟩
       have HBO := hide hB
       have HFR : Hid (∀ k, u.ownBlock = some k → w.heap.size ≤ k ∧ k ≠ p2) := fun k hk => by have := hfr k hk; have := (unhide HK).size; have := (unhide HZ).lt; exact ⟨by omega, by omega⟩
       replace HZ := hide ((unhide HZ).kept K4 (by simp))
       replace HK := hide ((unhide HK).trans K4)
       clear hB hfr K4
       refine Stp.go ?_))
  constructor
  go_wp2_with (
    first
    | (refine wpStoreW row47 (by rfl) (.tmp 4) (.tmp 21) (by rfl) (by rfl) p2 zL (l.D u) (by kernel_rfl) (by kernel_rfl) rfl (D_one (unhide HBO).one) (unhide HZ) rfl ?_
       intro W5 B5 K5
       replace HZ := hide B5
       replace HBO := hide ((unhide HBO).kept K5 (fun k hk => by have := (unhide HFR k hk).2; simp; omega))
       replace HK := hide ((unhide HK).fresh K5 (fun i hi hl => by have : w.heap.size ≤ p2 := unhide HF; simp at hi; omega))
       clear B5 K5))
  exact bodyPost_ret (res34 _ p2 (l.D u) f _ rfl rfl rfl (unhide HZ)) rfl ⟨u, rfl, unhide HBO, fun k hk => (unhide HFR k hk).1, unhide HK⟩
theorem is44 (q : Nat) (x k : Int) (w : World) (h : w.cell? ⟨q, 0, none⟩ = some (.int .i64 k)) : Calls Try.prog 44 #[.int .i64 x, P0 q] w fun e w' => e = .returned (.bool (decide (x = k))) ∧ w' = w := by
  go_enter Try.func44, Try.ntmps44
  go_wp2
  go_ret
  exact ⟨rfl, rfl⟩
theorem place_drop {k : Int} {L : List Ltr} {j : Nat} {l : Ltr} (h : L[j]? = some l) : placeOf k (L.drop j) j = if k = l.num then some (j, l) else placeOf k (L.drop (j + 1)) (j + 1) := by
  obtain ⟨hlt, rfl⟩ := List.getElem?_eq_some_iff.1 h
  rw [List.drop_eq_getElem_cons hlt]
  rfl
/-- Where a number stands in the order; how many there are, if nowhere. -/
def placeI (k : Int) (L : List Ltr) : Nat := match placeOf k L 0 with
  | none => L.length
  | some x => x.1
set_option maxHeartbeats 1000000 in
theorem place43 (b mb : Nat) (v : Value) (N : Nn) (q : Nat) (k : Int) (w : World) (h : Nt w b mb v N) (hq : w.cell? ⟨q, 0, none⟩ = some (.int .i64 k)) : Calls Try.prog 43 #[P0 b, .func (.func 44) #[] #[P0 q]] w fun e w' => e = .returned (.int .i64 (placeI k N.L)) ∧ w' = w := by
  obtain ⟨ao, c, rfl, hV, hnil⟩ := owns_vals h.ord
  have hc := h.cells.2.2.2
  have hmany := h.many
  obtain ⟨L, hL⟩ : ∃ L, N.L = L := ⟨_, rfl⟩
  rw [hL] at hc hV hmany ⊢
  have HV := hide hV
  have PI := hide (fun x => is44 q x k w hq)
  clear h hq hV hnil
  go_enter Try.func43, Try.ntmps43
  go_wp2
  go_step3
  go_wp2
  go_step3
  go_wp2
  go_loopw [5, 18] (fun at_ i wr => ∃ j : Nat, j ≤ L.length ∧ at_ = .int .i64 L.length ∧ i = .int .i64 j ∧ wr = w ∧ Hid (placeOf k (L.drop j) j = placeOf k L 0)) (fun _ i _ => L.length - (intOf i).toNat)
  case atStart => exact ⟨0, by omega, rfl, rfl, rfl, rfl⟩
  case round =>
    obtain ⟨j, hj, rfl, rfl, rfl, hp⟩ := hrel
    by_cases hlt : j < L.length
    · obtain ⟨l, hl⟩ : ∃ l, L[j]? = some l := ⟨_, List.getElem?_eq_getElem hlt⟩
      have hne : nums L ≠ [] := by intro e; have := congrArg List.length e; rw [nums_len] at this; simp at this; rw [this] at hlt; simp at hlt
      obtain ⟨g, off, rfl, hr⟩ := (unhide HV).lies hne
      have hcell := hr j (.int .i64 l.num) (by simp [nums, hl])
      have hpd := place_drop (k := k) hl
      have P := hide (unhide PI l.num)
      clear hr
      by_cases hkl : k = l.num
      · have hres : placeI k L = j := by
          unfold placeI
          rw [← unhide hp, hpd, if_pos hkl]
        rw [decide_eq_true hkl.symm] at P
        clear hpd hp hl
        go_wp2_with (
          first
          | (go_at_call 44
             refine (unhide P).mono ?_
             rintro e V1 ⟨rfl, hw1⟩
             obtain rfl := hw1.symm
             clear hw1 P))
        rw [Exit.noGoto_ret]
        go_ret
        exact ⟨by rw [hres]; rfl, rfl⟩
      · rw [decide_eq_false (fun e => hkl e.symm)] at P
        rw [if_neg hkl] at hpd
        have HP2 := hide (hpd.symm.trans (unhide hp))
        clear hpd hp hl
        go_wp2_with (
          first
          | (go_at_call 44
             refine (unhide P).mono ?_
             rintro e V1 ⟨rfl, hw1⟩
             obtain rfl := hw1.symm
             clear hw1 P))
        go_roundw
        case rel => exact ⟨j + 1, by omega, by first | rfl | trivial, by go_num, by first | rfl | trivial, HP2⟩
        case measure => simp [intOf]; omega
    · have hres : placeI k L = L.length := by
        unfold placeI
        rw [← unhide hp, List.drop_eq_nil_of_le (by omega)]
        rfl
      go_wp2
      rw [Exit.noGoto_ret]
      go_ret
      exact ⟨by rw [hres]; rfl, rfl⟩

end Go.Proofs.Ytpcggcicpojdoaa

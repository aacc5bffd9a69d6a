/-
  The walk of the document's At: where a place lies.
-/
import Derived.Test.YtcfoebpbbmnleaaList
import Derived.Test.YtcfoebpbbmnleaaOps
namespace Go.Proofs.Ytcfoebpbbmnleaa
open Go.RowKit

/-- A slice that holds all places of a job. -/
def Lst (w : World) (j : Job) (ao : Option Addr) : Prop := ∀ k, k < j.N → ∃ g, ao = some ⟨g, 0, none⟩ ∧ w.rangeAt g (k * 4) (j.pl k).C
theorem Lst.kept {w w' : World} {j : Job} {ao : Option Addr} (h : Lst w j ao) (hk : Kept [] w w') : Lst w' j ao := by
  intro k hkn
  obtain ⟨g, e, hr⟩ := h k hkn
  exact ⟨g, e, fun i u hu => hk.cell (hr i u hu) (by simp)⟩
theorem own_lst {w : World} {B : Nat} {v : Value} {j : Job} (h : w.ownsRow B 37 4 v j.N (j.pre j.N)) : ∃ ao c, v = .slice ao j.N c ∧ Lst w j ao := by
  rcases h.2 with ⟨h1, h2⟩ | ⟨g, cap, cur, h1, h2, h3, h4, h5, h6, h7⟩
  · exact ⟨none, 0, by rw [h1, h2], fun k hk => by omega⟩
  · refine ⟨some ⟨g, 0, none⟩, cap, h1, fun k hk => ⟨g, rfl, fun i u hu => ?_⟩⟩
    have hi : i < 4 := by have := (List.getElem?_eq_some_iff.1 hu).1; simpa [Pl.C, fourC] using this
    rw [cell_of_block h3]
    have := Job.pre_get j k j.N i hk hi
    rw [← h7, List.getElem?_take_of_lt (by omega)] at this
    rw [← Array.getElem?_toList, this]; exact hu

section
variable {o : Oper} {a : Act} {w : World} {K : Act → World → Prop} {Q : Exit → Act → World → Prop}
theorem o_idx25 (x y : Operand) (ho : o.op = .indexAddr 25 x y) (g n c k : Nat) (hk : k < n) (hx : a.eval x = .slice (some ⟨g, 0, none⟩) n c) (hy : a.eval y = .int .i64 k) (h : K (a.put o.dst (.pointer (some ⟨g, k * 4, none⟩))) w) : o.wp Try.prog a w K Q := by
  have h1 : ((k : Int) < n) := by omega
  unfold Oper.wp execOp
  simp only [ho, hx, hy]
  simp [go_sem, hk]
  exact h
theorem o_eql37 (x y : Operand) (ho : o.op = .binOp .eql 37 x y 37) (p q : Pl) (r : Bool) (hr : p.eq q = r) (hx : a.eval x = aggV p.C) (hy : a.eval y = aggV q.C) (h : K (a.put o.dst (.bool r)) w) : o.wp Try.prog a w K Q := by
  have he := equalPl w p q
  rw [hr] at he
  unfold Oper.wp execOp
  simp only [aggV] at he hx hy
  have hg : (eqGuard .eql 37 x y (.agg p.C.toArray) (.agg q.C.toArray)).run Try.prog w = .ok () w := by simp [eqGuard, Sem.run_bind]
  have hb : (binOp BinOp.eql 37 (.agg p.C.toArray) (.agg q.C.toArray)).run Try.prog w = .ok (.bool r) w := by simp only [binOp, Sem.run_bind, he, Result.andThen_ok, Sem.run_pure]
  simp only [ho, hx, hy, Sem.run_bind, hg, hb, Result.andThen_ok]
  exact h
end

set_option maxHeartbeats 2000000 in
set_option maxRecDepth 100000 in
theorem at22 (j : Job) (x : Pl) (w : World) : Calls Try.prog 22 #[aggV (jobC j), aggV x.C] w fun e w' => e = .returned (two (j.where? x)) ∧ Kept [] w w' := by
  have hNl := Job.N_le j
  go_enter Try.func22, Try.ntmps22
  go_wp2_with (
    first
    | (refine wpBoxV rfl (.tmp 0) rfl (jobC j) rfl ?_
       intro W1 b1 e1 B1 K1
       have BB := hide B1
       have KK := hide K1
       clear e1 B1 K1)
    | (refine wpBoxV rfl (.tmp 1) rfl x.C rfl ?_
       intro W2 b2 e2 B2 K2
       have BX := hide B2
       replace BB := hide ((unhide BB).kept K2 (by simp))
       replace KK := hide ((unhide KK).trans K2)
       clear e2 B2 K2)
    | (refine wpLoadA row23 rfl (.tmp 2) rfl b1 0 rfl (jobC j) rfl (unhide BB).range ?_)
    | (go_at_call 7; refine (list7 j _).mono ?_; rintro e W3 ⟨v, rfl, hO, K3⟩
       obtain ⟨ao, c, rfl, hlst⟩ := own_lst hO
       have HL := hide hlst
       replace BX := hide ((unhide BX).kept K3 (by simp))
       replace KK := hide ((unhide KK).trans K3)
       clear K3 hO hlst BB))
  go_loopw [7] (fun i wr => ∃ k : Nat, k ≤ j.N ∧ i = .int .i64 k ∧ Hid (∀ i, i < k → (j.pl i).eq x = false) ∧ Hid (Kept [] W3 wr)) (fun i _ => j.N - (intOf i).toNat)
  case atStart => exact ⟨0, by omega, rfl, fun i hi => by omega, Kept.refl _ _⟩
  case round =>
    obtain ⟨k, hk, rfl, hno, hkp⟩ := hrel
    have BX2 := hide ((unhide BX).kept (unhide hkp) (by simp))
    have HL2 := hide ((unhide HL).kept (unhide hkp))
    have KK2 := hide ((unhide KK).trans (unhide hkp))
    by_cases hlt : k < j.N
    · obtain ⟨g, hao, hrg⟩ := unhide HL2 k hlt
      subst hao
      have hm : j.may = true := by
        cases h : j.may with
        | true => rfl
        | false => rw [Job.N_no h] at hlt; omega
      generalize hr : (j.pl k).eq x = r
      have hR := hide hr
      have HR := hide hrg
      clear hr hrg HL2
      go_wp2_with fail
      refine wp_region_prefG mixed 6 0 rfl (by kernel_rfl) (tab (List.map Fact.is [.slice (some ⟨g, 0, none⟩) j.N c, .int .i64 k, .pointer (some ⟨g, k * 4, none⟩), aggV (j.pl k).C, aggV x.C, .bool r])) (apartE []) (fun j o i b _ ho hg => guards_spec (by kernel_rfl) j o i b ho hg) (tab_kept _) (by kernel_rfl) ?_ ?_
      · intro i o hi ho a' w2 hout hin hk2
        match i, ho with
        | 0, ho =>
          obtain rfl := Option.some.inj ho
          exact o_moveV (.tmp 6) _ rfl ((hout 6 (by kernel_rfl)).trans rfl) ⟨_, rfl, tab_is _ _ _ _ rfl, Kept.refl _ _, fun i u _ _ _ => fun _ hj => absurd hj (by decide)⟩
        | 1, ho =>
          obtain rfl := Option.some.inj ho
          exact o_moveV (.tmp 7) _ rfl ((hout 7 (by kernel_rfl)).trans rfl) ⟨_, rfl, tab_is _ _ _ _ rfl, Kept.refl _ _, fun i u _ _ _ => fun _ hj => absurd hj (by decide)⟩
        | 2, ho =>
          obtain rfl := Option.some.inj ho
          have e0 : a'.eval (.tmp 16) = .slice (some ⟨g, 0, none⟩) j.N c := is_tab (hin 0 16 (by kernel_rfl) (by kernel_rfl)) rfl
          have e1 : a'.eval (.tmp 17) = .int .i64 k := is_tab (hin 1 17 (by kernel_rfl) (by kernel_rfl)) rfl
          exact o_idx25 (.tmp 16) (.tmp 17) rfl g j.N c k hlt e0 e1 ⟨_, rfl, tab_is _ _ _ _ rfl, Kept.refl _ _, fun i u _ _ _ => fun _ hj => absurd hj (by decide)⟩
        | 3, ho =>
          obtain rfl := Option.some.inj ho
          have e0 : a'.eval (.tmp 18) = .pointer (some ⟨g, k * 4, none⟩) := is_tab (hin 2 18 (by kernel_rfl) (by kernel_rfl)) rfl
          exact wp_loadA row37 (.tmp 18) rfl g (k * 4) e0 (j.pl k).C rfl (fun i u hu => hk2.cell (unhide HR i u hu) (by simp)) ⟨_, rfl, tab_is _ _ _ _ rfl, Kept.refl _ _, fun i u _ _ _ => fun _ hj => absurd hj (by decide)⟩
        | 4, ho =>
          obtain rfl := Option.some.inj ho
          exact wp_loadA row37 (.tmp 3) rfl b2 0 ((hout 3 (by kernel_rfl)).trans rfl) x.C rfl ((unhide BX2).kept hk2 (by simp)).range ⟨_, rfl, tab_is _ _ _ _ rfl, Kept.refl _ _, fun i u _ _ _ => fun _ hj => absurd hj (by decide)⟩
        | 5, ho =>
          obtain rfl := Option.some.inj ho
          have e0 : a'.eval (.tmp 19) = aggV (j.pl k).C := is_tab (hin 3 19 (by kernel_rfl) (by kernel_rfl)) rfl
          have e1 : a'.eval (.tmp 20) = aggV x.C := is_tab (hin 4 20 (by kernel_rfl) (by kernel_rfl)) rfl
          exact o_eql37 (.tmp 19) (.tmp 20) rfl (j.pl k) x r (unhide hR) e0 e1 ⟨_, rfl, tab_is _ _ _ _ rfl, Kept.refl _ _, fun i u _ _ _ => fun _ hj => absurd hj (by decide)⟩
      · intro vs w3 hlen hF hE hk2
        obtain rfl := vs_is hF (by rw [hlen]; rfl)
        replace KK2 := hide ((unhide KK2).trans hk2)
        have hkp2 := hide ((unhide hkp).trans hk2)
        clear hF hE hk2 BX2 HR hkp
        simp only [List.take_succ_cons, List.take_zero, putAll, Act.put, List.setIfInBounds_toArray, List.set_cons_succ, List.set_cons_zero]
        refine wpAny_done (by kernel_rfl) ?_ _
        cases r with
        | true =>
          have hw := hide (where_yes hm x k hlt ((Pl.eq_iff _ _).1 (unhide hR))).1
          go_wp2_with fail
          go_ret2
          rw [unhide hw]
          exact ⟨rfl, unhide KK2⟩
        | false =>
          have hno2 : Hid (∀ i, i < k + 1 → (j.pl i).eq x = false) := by
            intro i hi
            rcases (show i < k ∨ i = k by omega) with h | rfl
            · exact unhide hno i h
            · exact unhide hR
          go_wp2_with fail
          go_roundw
          case rel => exact ⟨k + 1, by omega, by go_num, hno2, hkp2⟩
          case measure => simp [intOf]; omega
    · obtain rfl : k = j.N := by omega
      have hw : Hid (j.where? x = (0, 2)) := where_no x (fun i hi he => by
        have := unhide hno i hi
        rw [(Pl.eq_iff _ _).2 he] at this
        cases this)
      clear hno
      go_wp2_with fail
      go_ret2
      rw [unhide hw]
      exact ⟨rfl, unhide KK2⟩

end Go.Proofs.Ytcfoebpbbmnleaa

/-
  do: a copy goes on.
-/
import Derived.Test.YtpcggcicpojdoaaDb
import Derived.Test.YtpcggcicpojdoaaKn
import Derived.Test.YtpcggcicpojdoaaSb
namespace Go.Proofs.Ytpcggcicpojdoaa
open Go.RowKit

section
variable {ops : Array Oper} {rest : List Oper} {op : Oper} {a : Act} {w : World} {Q : Exit → Act → World → Prop}
theorem bsZZ (w : World) : (Instr.buildSlice 34 2 #[(0, .int .u8 122), (1, .int .u8 122)]).run Try.prog w = .ok (.slice (some ⟨w.heap.size, 0, none⟩) 2 2) (w.alloc (.cells #[.int .u8 122, .int .u8 122] 5)) := by kernel_rfl
theorem wpBytesZ {o1 o2 : Oper} (d : Nat) (hd : o1.dst = some d) (hg1 : o1.guard = none) (ho1 : o1.op = .buildSlice 34 2 #[(0, .const (.int .u8 122)), (1, .const (.int .u8 122))]) (hg2 : o2.guard = none) (ho2 : o2.op = .convert 34 34 (.tmp d))
    (hx : ∀ g : Nat, (a.put (some d) (.slice (some ⟨g, 0, none⟩) 2 2)).eval (.tmp d) = .slice (some ⟨g, 0, none⟩) 2 2)
    (h : ∀ W g, w.heap.size ≤ g → W.rangeAt g 0 (u8s [122, 122]) → Kept [] w W → wpList Try.prog ops Q rest ((a.put (some d) (.slice (some ⟨g, 0, none⟩) 2 2)).put o2.dst (.slice (some ⟨g, 0, none⟩) 2 2)) W) : wpList Try.prog ops Q (o1 :: o2 :: rest) a w :=
  wpList_plain hg1 fun K hK => by
    unfold Oper.wp execOp
    simp only [ho1, Act.eval, List.map_toArray, List.map_cons, List.map_nil, Sem.run_bind, bsZZ, Result.andThen_ok]
    refine hK _ _ ?_
    rw [hd]
    exact wpCv34 hg2 (.tmp d) ho2 w.heap.size 2 2 [122, 122] (hx _) (Blk.new w 5 (u8s [122, 122])) fun W2 h1 h2 => h W2 _ (Nat.le_refl _) h1 (((Kept.refl [] w).alloc (.cells #[.int .u8 122, .int .u8 122] 5)).fresh h2 (fun i hi hl => by simp at hi; omega))
end
/-- A net of which no block is among those that another one writes. -/
theorem Nt.apart {W W' : World} {b mb b2 mb2 : Nat} {v v1 v2 : Value} {N N1 M : Nn} {P : Pn} (h : Nt W b2 mb2 v2 M) (hn : Nt W b mb v N) (hm : Mut W W' b mb v v1 N1 P) (hb : b2 ≠ b) (hmb : mb2 ≠ mb) (hv : ∀ k, v2.ownBlock = some k → v.ownBlock ≠ some k) : Nt W' b2 mb2 v2 M := by
  refine h.kept hm.k fun k hk => ⟨?_, fun l hl e => ?_⟩
  · obtain ⟨o, ho, hk⟩ := hk
    simp only [nX, List.mem_cons, Option.mem_toList] at hk ⊢
    simp only [not_or]
    rcases hk with rfl | rfl | hk
    · refine ⟨fun e => hb e.symm, map_not_cells h.map hn.head, fun e => ?_⟩
      obtain ⟨cs', hc'⟩ := owns_block h.ord k e
      have h1 := hn.head
      unfold Blk at h1
      rw [h1] at hc'
      injection hc' with hc'
      injection hc' with _ hc'
      exact absurd hc' (by decide)
    · refine ⟨fun e => ?_, fun e => hmb e.symm, fun e => ?_⟩
      · subst e
        exact map_not_cells hn.map h.head rfl
      · obtain ⟨cs', hc'⟩ := owns_block h.ord k e
        exact map_not_cells hn.map hc' rfl
    · obtain ⟨cs', hc'⟩ := owns_block hn.ord k hk
      refine ⟨fun e => ?_, map_not_cells h.map hc', fun e => hv k e hk⟩
      subst e
      have h1 := h.head
      unfold Blk at h1
      rw [h1] at hc'
      injection hc' with hc'
      injection hc' with _ hc'
      exact absurd hc' (by decide)
  · exact hn.away (h.body l hl) k e hk.choose_spec.2
theorem Dn.copy {w W W1 W2 W3 W4 w' : World} {b mb : Nat} {v v1 v2 : Value} {N N1 N2 : Nn} {r : Nat} {lv : Value} {R : Nn} {P1 P2 : Pn} {b' mb' : Nat} {v' : Value} (h : Pw W b mb v N r lv R) (hk : Kept [] w W) (gb : W.heap.size ≤ b') (gm : W.heap.size ≤ mb') (gv : ∀ i, v'.ownBlock = some i → W.heap.size ≤ i)
    (hc : Nt W1 b' mb' v' N) (k1 : Kept [] W W1) (k2 : Kept [] W1 W2) (m1 : Mut W2 W3 b mb v v1 N1 P1) (m2 : Mut W3 W4 b mb v1 v2 N2 P2) (hk2 : Kept [] W4 w') : Dn w w' b mb v N r b' mb' v' N lv R := by
  have hlt := h.net.lt
  have hn2 : Nt W2 b mb v N := (h.net.kept0 k1).kept0 k2
  have hc2 := hc.kept0 k2
  have hc3 : Nt W3 b' mb' v' N := hc2.apart hn2 m1 (by omega) (by omega) (fun k e e2 => by have h1 := gv k e; have h2 := hlt.2.2 k e2; omega)
  have hc4 : Nt W4 b' mb' v' N := hc3.apart m1.nt m2 (by omega) (by omega) (fun k e e2 => by
    have h1 := gv k e
    have h3 := hc2.lt.2.2 k e
    rcases m1.v k e2 with h2 | h2
    · have h2 := hlt.2.2 k h2; omega
    · omega)
  have r3 := ((h.ref.kept0 k1).kept0 k2).mut hn2 m1
  have r4 := r3.mut m1.nt m2
  have kk : Kept (r :: nX b mb v) w W2 := ((hk.trans k1).trans k2).mono (by simp)
  have hs := ((hk.trans k1).trans k2).size
  refine ⟨⟨hc4.kept0 hk2, r4.kept0 hk2, h.pl⟩, by omega, rfl, ?_, .inr (by have := hk.size; omega), .inr (by have := hk.size; omega), fun i hi => .inr (by have h1 := hk.size; have h2 := gv i hi; omega)⟩
  have k3 : Kept (r :: nX b mb v) w W3 := kk.trans (m1.k.mono (by simp; intro a ha; exact .inr ha))
  refine (k3.fresh m2.k (fun i hi hl => ?_)).trans (hk2.mono (by simp))
  simp only [nX, List.mem_cons, Option.mem_toList] at hi ⊢
  rcases hi with h1 | h1 | h1
  · exact .inr (.inl h1)
  · exact .inr (.inr (.inl h1))
  · rcases m1.v i h1 with h2 | h2
    · exact .inr (.inr (.inr h2))
    · omega
theorem sameN_refl (N : Nn) : sameN N N = true := by simp [sameN]
set_option maxHeartbeats 4000000 in
set_option maxRecDepth 100000 in
theorem do12_6 (x : Stq) (b mb : Nat) (v : Value) (N : Nn) (r : Nat) (lv : Value) (R : Nn) (w : World) (h : Pw w b mb v N r lv R) (hla : N.last ≤ 1000000000000) (hk : x.k = 6) : Calls Try.prog 12 #[P0 b, P0 r, aggV x.C] w fun e w' => ∃ b' mb' v' N' lv' R', e = .returned (.tuple #[P0 b', P0 r, .bool true]) ∧ Dn w w' b mb v N r b' mb' v' N' lv' R' := by
  have HP := hide h
  have HLA := hide hla
  clear h hla
  go_enter Try.func12, Try.ntmps12
  go_wp2_with (
    first
    | (refine wpBoxV (by rfl) (.tmp 2) (by rfl) x.C (by kernel_rfl) ?_
       intro V1 p5 e5 B5 K5
       have HX5 := hide B5
       have HK := hide K5
       have hx0 := fits_cell (unhide HX5) 0 (.int .i64 x.k) rfl
       have hx1 := fits_cell (unhide HX5) 1 (.int .i64 x.a) rfl
       have hx2 := fits_cell (unhide HX5) 2 (.int .i64 x.b) rfl
       have hx3 := fits_cell (unhide HX5) 3 (.int .i64 x.n) rfl
       have hx4 := fits_cell (unhide HX5) 4 (.slice x.ao x.m x.c) rfl
       have HP1 := hide ((unhide HP).kept0 (unhide HK))
       clear e5 B5 K5
       refine Stp.go ?_))
  constructor
  go_wp2_with (
    first
    | (go_at_call 31
       refine (copy31 b mb v N _ (unhide HP1).net).mono ?_
       rintro e V2 ⟨b', mb', v', rfl, gb, gm, gv, hc, hk⟩
       have HG := hide (And.intro gb (And.intro gm gv))
       have HC := hide hc
       have HK1 := hide hk
       replace HX5 := hide ((unhide HX5).kept hk (by simp))
       clear gb gm gv hc hk hx0 hx1 hx2 hx3 hx4
       refine Stp.go ?_))
  constructor
  go_wp2_with (
    first
    | (go_at_call 14
       refine (same14 b' mb' b mb v' v N N _ (unhide HC) ((unhide HP1).net.kept0 (unhide HK1))).mono ?_
       rintro e V3 ⟨rfl, hk⟩
       rw [sameN_refl]
       have HK2 := hide hk
       have HSZ := hide hk.size
       clear hk
       refine Stp.go ?_))
  constructor
  go_wp2_with (
    first
    | (refine wpBytesZ 187 (by rfl) (by rfl) (by rfl) (by rfl) (by rfl) (fun _ => by rfl) ?_
       intro V4 g gg hB hk
       have HB := hide hB
       have HGG := hide gg
       replace HK2 := hide ((unhide HK2).trans hk)
       clear hB hk gg
       refine Stp.go ?_))
  constructor
  go_wp2_with (
    first
    | (go_at_call 16
       refine (p16 b mb v N 0 1 (some ⟨g, 0, none⟩) 2 2 [122, 122] _ (((unhide HP1).net.kept0 (unhide HK1)).kept0 (unhide HK2)) (vals_blk (unhide HB)) (fun e => by cases e) (by simp) (fun _ h off e => by cases e; have h1 := ((unhide HP1).net.kept0 (unhide HK1)).lt.1; have h2 := unhide HGG; have h3 := unhide HSZ; omega) (unhide HLA)).mono ?_
       rintro e V5 ⟨v1, N1, rfl, hm, _⟩
       have HM1 := hide hm
       clear hm
       refine Stp.go ?_))
  constructor
  go_wp2_with (
    first
    | (go_at_call 18
       refine (p18 b mb v1 N1 1 _ (unhide HM1).nt).mono ?_
       rintro e V6 ⟨v2, N2, l, rfl, _, _, hm⟩
       have HM2 := hide hm
       clear hm
       refine Stp.go ?_))
  constructor
  go_wp2_with fail
  exact bodyPost_ret (res12 _ _ _ _ _ rfl rfl rfl) rfl ⟨b', mb', v', N, lv, R, rfl, Dn.copy (unhide HP1) (unhide HK) (unhide HG).1 (unhide HG).2.1 (unhide HG).2.2 (unhide HC) (unhide HK1) (unhide HK2) (unhide HM1) (unhide HM2) (Kept.refl _ _)⟩

end Go.Proofs.Ytpcggcicpojdoaa

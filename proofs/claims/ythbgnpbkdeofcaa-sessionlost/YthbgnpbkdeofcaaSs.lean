/-
  The walk of SessionPlays.
-/
import Derived.Test.YthbgnpbkdeofcaaRd
import Derived.Test.YthbgnpbkdeofcaaSr
namespace Go.Proofs.Ythbgnpbkdeofcaa
set_option maxRecDepth 100000
open Go.RowKit

section
variable {o : Oper} {a : Act} {w : World} {K : Act → World → Prop} {Q : Exit → Act → World → Prop}
theorem o_sub3 (x y : Operand) (ho : o.op = .binOp .sub 3 x y 3) (m n : Int) (hm : -9223372036854775808 ≤ m - n ∧ m - n ≤ 9223372036854775807) (hx : a.eval x = .int .i64 m) (hy : a.eval y = .int .i64 n) (h : K (a.put o.dst (.int .i64 (m - n))) w) : o.wp Try.prog a w K Q := by
  have hw : IntKind.i64.wrap (m - n) = m - n := by rw [IntKind.wrap_i64]; omega
  unfold Oper.wp execOp
  simp only [ho, hx, hy]
  simp [go_sem, hw]
  exact h
end
theorem row37 : Row 37 8 := ⟨_, Try.underlying37, rfl, by kernel_rfl⟩
def zS : List Value := [.int .i64 0, .slice none 0 0, .int .i64 0, .int .i64 0, .int .i64 0, .int .i64 0, .int .i64 0, .slice none 0 0]
theorem alloc37 (w : World) : (Instr.alloc 37 true (.tuple #[])).run Try.prog w = .ok (P0 w.heap.size) (w.alloc (.cells zS.toArray 37)) := by kernel_rfl
theorem stC_one (x : St1) : ∀ u ∈ x.C, u.oneCell' = true := by
  intro u hu
  simp only [St1.C, Dg.C, List.mem_cons, List.not_mem_nil, or_false] at hu
  rcases hu with rfl | rfl | rfl | rfl | rfl | rfl | rfl | rfl <;> rfl
theorem build32 (w : World) (a b c : Int) : (Instr.build 32 #[(0, .int .i64 a), (1, .int .i64 b), (2, .int .i64 c)]).run Try.prog w = .ok (aggV ((newP a b c).R (.slice none 0 0))) w := by kernel_rfl
theorem Rx.new {W : World} {b : Nat} {m o v : Int} (hne : m ≠ o) (hb : Blk W b 32 ((newP m o v).R (.slice none 0 0))) : Rx W b (.slice none 0 0) [] (newP m o v) := ⟨newP_ok hne, hb, OwnO.nil _, rfl, by simp⟩
theorem rcome_arg (w W : World) (r : Nat) (rv : Value) (rs : List Value) (R : Ps) (d : Dg) (y : By) (h : Rx W r rv rs R) (hge : w.heap.size ≤ r ∧ ∀ i, rv.ownBlock = some i → w.heap.size ≤ i) (hy : y.Ok W w.heap.size) (hd : d.bs = y.bs) : Calls Try.prog 21 #[P0 r, aggV (d.C y.v)] W fun e W' => CRr W r rv rs R d e W' := by
  refine rcome21 r rv rs R d y.ao y.m y.c W h (by rw [hd]; exact hy.len) (by rw [hd]; exact hy.vals) hy.nil (by rw [hd]; exact hy.byte) (fun g off hne e => ?_)
  intro hm
  have h1 := hy.old (fun e => hne (by rw [hd, e]; rfl)) g off e
  rcases List.mem_cons.1 hm with rfl | hm
  · have := hge.1; omega
  · have := hge.2 g (by simpa using hm); omega
theorem come20bs (b : Nat) (v : Value) (ws : List Value) (P : Ps) (d : Dg) (u : Value) (w : World) (h : Sx w b v ws P) (hB : Bod w u d.bs) : Calls Try.prog 20 #[P0 b, aggV (d.C u)] w fun e w' => CRs w b v ws P d e w' := by
  obtain ⟨uo, uc, rfl, hV, hn⟩ := hB.sl
  exact come20s b v ws P d uo d.bs.length uc w h rfl hV hn hB.byte (fun g off _ e => h.away hB g (by rw [e]; rfl))
/-- What the region of both Sends keeps. -/
@[reducible] def S3a (w : World) (b : Nat) (P : Ps) (r : Nat) (P1 : Ps) (p : Nat) (C : List Value) (u0 : Value) (bs : List Int) (d : Nat → Bool) (_ : Nat → Value) (W : World) : Prop :=
  ∃ v ws rv rs, Du w W b v ws (if d 2 then P1 else P) r rv rs (if d 6 then P1 else P) ∧ Blk W p 37 C ∧ Bod W u0 bs ∧ Nc u0 ws ∧ Nc u0 rs
theorem S3a.loc {w : World} {b : Nat} {P : Ps} {r : Nat} {P1 : Ps} {p : Nat} {C : List Value} {u0 : Value} {bs : List Int} : ∀ d d' vs vs' W, (∀ i ∈ [2, 6], d i = d' i ∧ vs i = vs' i) → S3a w b P r P1 p C u0 bs d vs W → S3a w b P r P1 p C u0 bs d' vs' W := by
  intro d d' vs vs' W H h
  have e0 := H 2 (by simp)
  have e1 := H 6 (by simp)
  unfold S3a at h ⊢
  rw [← e0.1, ← e1.1]
  exact h
theorem Nc.of_bods {W : World} {u0 : Value} {ws ws' : List Value} (h : Nc u0 ws) (hl : ∀ k, u0.ownBlock = some k → k < W.heap.size) (hb : ∀ u ∈ ws', ∀ k, u.ownBlock = some k → (∃ x ∈ ws, x.ownBlock = some k) ∨ W.heap.size ≤ k) : Nc u0 ws' := by
  intro u hu k e e0
  rcases hb u hu k e with ⟨x, hx, ex⟩ | h1
  · exact h x hx k ex e0
  · have := hl k e0; omega
theorem Bod.lt {W : World} {u : Value} {bs : List Int} (h : Bod W u bs) : ∀ k, u.ownBlock = some k → k < W.heap.size := fun k e => by
  obtain ⟨cs, hc⟩ := h.block k e
  exact lt_of_block hc
theorem Nc.new {W : World} {u0 : Value} {ws : List Value} (hn : ∀ k, u0.ownBlock = some k → W.heap.size ≤ k) (hl : ∀ u ∈ ws, ∀ k, u.ownBlock = some k → k < W.heap.size) : Nc u0 ws := fun u hu k e e0 => by have h1 := hl u hu k e; have h2 := hn k e0; omega
theorem by_of_bod {W : World} {uo : Option Addr} {m uc : Nat} {bs : List Int} (h : Bod W (.slice uo m uc) bs) (hb : m ≤ 140737488351232) (hl : bs.length = m) : (⟨uo, m, uc, bs⟩ : By).Ok W W.heap.size := by
  obtain ⟨ao, c, e, hV, hn⟩ := h.sl
  injection e with e1 e2 e3
  subst e1 e3
  rw [hl] at hV hn
  refine ⟨hV, hn, h.byte, fun hne g off e => h.lt g (by rw [show uo = some ⟨g, off, none⟩ from e]; rfl), hb⟩
theorem td_len {P : Ps} (h : P.sent.length < 1000) {f : Nat} {L : List (Dg × Value)} (hm : L.map Prod.fst = P.tellL f) : L.length ≤ 10000 := by
  have h1 := congrArg List.length hm
  rw [List.length_map] at h1
  have h2 := tell_len P f
  omega
theorem td_small {P : Ps} (h : P.Ok) {f : Nat} {L : List (Dg × Value)} (hm : L.map Prod.fst = P.tellL f) : ∀ p ∈ L, p.1.bs.length ≤ 10000 := by
  intro p hp
  have h1 : p.1 ∈ P.tellL f := by rw [← hm]; exact List.mem_map.2 ⟨p, hp, rfl⟩
  have := tell_small h f _ h1
  omega
theorem come_sent (P : Ps) (d : Dg) : (P.come d).1.sent = P.sent := by
  unfold Ps.come
  split
  · rfl
  · split
    · rfl
    · split <;> rfl
theorem come_small {P : Ps} (_ : P.Ok) (d : Dg) : ((P.come d).2.getD []).length ≤ 1000 := by
  cases hno : P.no d with
  | true => rw [come_eq_no hno]; simp
  | false =>
    by_cases h0 : d.seq = 0
    · rw [come_eq_0 hno h0]; simp
    · by_cases h1 : d.seq = P.got + 1
      · rw [come_eq_next hno h0 h1]
        have := (no_parts hno).2.2.2.2.2.2.2
        simp
        omega
      · rw [come_eq_far hno h0 h1]; simp
theorem Du.other35 {w W W' : World} {b : Nat} {v : Value} {ws : List Value} {P : Ps} {r : Nat} {rv : Value} {rs : List Value} {R : Ps} {q : Nat} (h : Du w W b v ws P r rv rs R) (hk : Kept [q] W W') (hq : ∃ cs pp, W.heap[q]? = some (Obj.cells cs 35 pp)) (hg : w.heap.size ≤ q) : Du w W' b v ws P r rv rs R := by
  obtain ⟨cs, pp, hc⟩ := hq
  have hno : ∀ (p T : Nat) (cs : Array Value) (q' : Nat × Nat), T ≠ 35 → W.heap[p]? = some (Obj.cells cs T q') → p ∉ [q] := fun p T cs q' hT hp hm => by
    simp at hm
    subst hm
    rw [hc] at hp
    cases hp
    exact hT rfl
  refine ⟨⟨h.sm.sx.kept hk (hno _ _ _ _ (by decide) h.sm.sx.head) (fun k e => ?_) (fun u hu k e => ?_), h.k.fresh hk (fun i hi hl => by simp at hi; omega), h.sm.ge⟩, h.rx.kept hk (hno _ _ _ _ (by decide) h.rx.head) (fun k e => ?_) (fun u hu k e => ?_), h.rge, h.ap⟩
  · obtain ⟨cs, hc⟩ := h.sm.sx.row.block k e
    exact hno _ _ _ _ (by decide) hc
  · obtain ⟨bs, hb⟩ := h.sm.sx.bod hu
    obtain ⟨cs, hc⟩ := hb.block k e
    exact hno _ _ _ _ (by decide) hc
  · obtain ⟨cs, hc⟩ := h.rx.row.block k e
    exact hno _ _ _ _ (by decide) hc
  · obtain ⟨bs, hb⟩ := h.rx.bod hu
    obtain ⟨cs, hc⟩ := hb.block k e
    exact hno _ _ _ _ (by decide) hc
set_option maxHeartbeats 8000000 in
theorem plays3 (me oth vw : Int) (ao : Option Addr) (m c : Nat) (X : List St1) (w : World) (hX : Sts w w.heap.size ao m X) : Calls Try.prog 3 #[.int .i64 me, .int .i64 oth, .int .i64 vw, .slice ao m c] w fun e w' => e = .returned (.bool true) ∧ Kept [] w w' := by
  have HX := hide hX
  clear hX
  cases hmay : mayB me oth vw with
  | false =>
    have PN := hide (new_no me oth vw w hmay)
    have PM := hide (may10 me oth vw w)
    rw [hmay] at PM
    clear hmay
    go_enter Try.func3, Try.ntmps3
    go_wp2_with (
      first
      | (go_at_call 9
         refine (unhide PN).mono ?_
         rintro e V1 ⟨rfl, hw9⟩
         obtain rfl := hw9.symm
         clear hw9)
      | (go_at_call 10
         refine (unhide PM).mono ?_
         rintro e V2 ⟨rfl, hw9⟩
         obtain rfl := hw9.symm
         clear hw9)
      | (go_at_call 11
         refine (known11 _).mono ?_
         rintro e V3 ⟨rfl, hk⟩
         have HK := hide hk
         clear hk))
    go_ret
    exact ⟨rfl, unhide HK⟩
  | true =>
    have hne : me ≠ oth := by unfold mayB at hmay; simp only [Bool.and_eq_true, Bool.not_eq_true', decide_eq_false_iff_not] at hmay; exact hmay.1.2
    have PN := hide (new_yes me oth vw w hmay)
    have PM := hide (fun W => may10 me oth vw W)
    rw [hmay] at PM
    have HNE := hide hne
    clear hmay hne
    by_cases hm : m ≤ 60
    · have hmI : ¬ (60 : Int) < (m : Int) := by omega
      go_enter Try.func3, Try.ntmps3
      go_wp2_with (
        first
        | (go_at_call 9
           refine (unhide PN).mono ?_
           rintro e V1 ⟨b, rfl, e1, hs, hk⟩
           have MA : Hid (Sm w V1 b (.slice none 0 0) [] (newP me oth vw)) := ⟨hs, hk, by omega, fun i h => by cases h⟩
           clear e1 hs hk PN)
        | (go_at_call 10
           refine (unhide PM _).mono ?_
           rintro e V2 ⟨rfl, hw9⟩
           obtain rfl := hw9.symm
           clear hw9 PM)
        | (refine wpBuildP (by rfl) #[(0, .tmp 57), (1, .tmp 58), (2, .tmp 59)] (by rfl) #[(0, .int .i64 me), (1, .int .i64 oth), (2, .int .i64 vw)] (by kernel_rfl) ((newP me oth vw).R (.slice none 0 0)) (build32 _ _ _ _) ?_)
        | (refine wpBoxV (by rfl) (.tmp 60) (by rfl) ((newP me oth vw).R (.slice none 0 0)) (by kernel_rfl) ?_
           intro V3 r e3 B3 K3
           have DU : Hid (Du w V3 b (.slice none 0 0) [] (newP me oth vw) r (.slice none 0 0) [] (newP me oth vw)) := ⟨(unhide MA).step K3, Rx.new (unhide HNE) B3, ⟨by have := (unhide MA).k.size; omega, fun i h => by cases h⟩, fun k e => by cases e⟩
           clear e3 B3 K3 MA))
      go_loopw [12] (fun i wr => ∃ (k : Nat) (v : Value) (ws : List Value) (rv : Value) (rs : List Value) (P : Ps), k ≤ m ∧ k ≤ 60 ∧ i = .int .i64 k ∧ Hid (Du w wr b v ws P r rv rs P) ∧ Hid (P.sent.length ≤ k)) (fun i _ => m - (intOf i).toNat)
      case atStart => exact ⟨0, _, _, _, _, _, by omega, by omega, rfl, DU, hide (by simp [newP])⟩
      case round =>
        clear DU
        obtain ⟨k, v, ws, rv, rs, P, hk, hk60, rfl, DU, HPN⟩ := hrel
        have HXw := hide (Sts.kept0 (unhide HX) (unhide DU).k)
        by_cases hlt : k < m
        · obtain ⟨x, hx⟩ : ∃ x, X[k]? = some x := ⟨_, List.getElem?_eq_getElem (by rw [(unhide HX).len]; exact hlt)⟩
          obtain ⟨gx, offx, rfl, _, hl⟩ := (unhide HXw).lies (by intro e; rw [e] at hx; simp at hx)
          have HRX := hide (hl k x hx)
          have HXO := hide ((unhide HX).ok x (List.mem_of_getElem? hx))
          have hltI : (k : Int) < (m : Int) := by omega
          have HPK0 := hide (unhide DU).rx.ok
          have HPL : Hid (P.sent.length < 1000) := by have h1 := unhide HPN; exact (by omega : P.sent.length < 1000)
          clear hl hx HXw
          go_wp2_with (
            first
            | (refine wpLoadA row37 (by rfl) (.tmp 70) (by rfl) gx (offx + k * 8) (by kernel_rfl) x.C rfl (unhide HRX) ?_)
            | (refine wpNew row37 zS rfl alloc37 13 (by rfl) (by rfl) (by rfl) (.tmp 71) (by rfl) (by rfl) (by rfl) x.C rfl (stC_one x) (by kernel_rfl) (by kernel_rfl) ?_
               intro V4 p e4 B4 K4
               have HP := hide B4
               have HPG : Hid (w.heap.size ≤ p) := by have h1 := (unhide DU).k.size; exact (by omega : w.heap.size ≤ p)
               replace DU := hide ((unhide DU).step K4)
               clear e4 B4 K4 HRX
               have hp0 := fits_cell (unhide HP) 0 _ rfl
               refine Stp.go ?_))
          constructor
          by_cases hk1 : x.kind = 1
          · rw [hk1] at hp0
            have hp1 := fits_cell (unhide HP) 1 _ rfl
            unfold By.v at hp1
            go_wp2_with (
              first
              | (at_builtin; refine wpAppB (by rfl) (.tmp 77) (by rfl) x.y.ao x.y.m x.y.c x.y.bs (by kernel_rfl) (unhide HXO).y.nil ((unhide HXO).y.kept (unhide DU).k (by simp)).vals (unhide HXO).y.byte (by have h1 := (unhide HXO).y.big; omega) ?_
                 intro u0 V5 hB5 hf5 hk5
                 obtain ⟨uo, uc, hu, _, _⟩ := hB5.sl
                 rw [(unhide HXO).y.len] at hu
                 subst hu
                 have DU5 := hide ((unhide DU).step hk5)
                 have HP5 := hide ((unhide HP).kept hk5 (by simp))
                 have HB5 := hide hB5
                 have HN15 : Hid (Nc (.slice uo x.y.m uc) ws) := Nc.new hf5 (unhide DU).sm.sx.lt.2.2
                 have HN25 : Hid (Nc (.slice uo x.y.m uc) rs) := Nc.new hf5 (unhide DU).rx.lt.2.2
                 have HGE : Hid (∀ g, (Value.slice uo x.y.m uc).ownBlock = some g → w.heap.size ≤ g) := fun g e => by have h1 := hf5 g e; have h2 := (unhide DU).k.size; omega
                 have HYB : Hid (x.y.m ≤ 140737488351232) := (unhide HXO).y.big
                 have HYL : Hid (x.y.bs.length = x.y.m) := (unhide HXO).y.len
                 have hmb := (unhide HXO).y.big
                 clear hB5 hf5 hk5 hp0 hp1 DU))
            refine wp_region_any mixed (wpAny_gx 8 rfl (by kernel_rfl) [some (P0 b), some (.slice uo x.y.m uc), some (.int .i64 (P.send x.y.bs).2), some (P0 r), some (.pointer (some ⟨p, 1, none⟩)), some (x.y.v), some (.int .i64 (P.send x.y.bs).2), some (.bool false)] rfl (by kernel_rfl) (fun l vs W => (S3a w b P r (P.send x.y.bs).1 p x.C (.slice uo x.y.m uc) x.y.bs) (fun i => l.getD i false) vs W) (⟨v, ws, rv, rs, (unhide DU5).step ⟨rfl, rfl, rfl, Nat.le_refl _, fun _ _ _ => rfl⟩, unhide HP5, (unhide HB5).kept ⟨rfl, rfl, rfl, Nat.le_refl _, fun _ _ _ => rfl⟩ (X := []) (by simp), unhide HN15, unhide HN25⟩) ?_ ?_)
            · intro ix o' hi ho a' w2 l vs hls hlf hJ hout hin hdep hnot
              match ix, ho with
              | 0, ho =>
                obtain rfl := Option.some.inj ho
                have e0 := hout 9 (by kernel_rfl)
                replace e0 : a'.eval (.tmp 9) = _ := e0.trans rfl
                exact wp_move (.tmp 9) rfl _ e0 ⟨_, rfl, told_of rfl, keepG (St := (S3a w b P r (P.send x.y.bs).1 p x.C (.slice uo x.y.m uc) x.y.bs)) [2, 6] S3a.loc (by omega) (by decide) hJ⟩
              | 1, ho =>
                obtain rfl := Option.some.inj ho
                have e0 := hout 14 (by kernel_rfl)
                replace e0 : a'.eval (.tmp 14) = _ := e0.trans rfl
                exact wp_move (.tmp 14) rfl _ e0 ⟨_, rfl, told_of rfl, keepG (St := (S3a w b P r (P.send x.y.bs).1 p x.C (.slice uo x.y.m uc) x.y.bs)) [2, 6] S3a.loc (by omega) (by decide) hJ⟩
              | 2, ho =>
                obtain rfl := Option.some.inj ho
                have e0 : a'.eval (.tmp 79) = P0 b := by have h9 := hin 0 79 (by kernel_rfl) (by kernel_rfl); exact h9.1.trans (told_is _ h9.2 rfl)
                have e1 : a'.eval (.tmp 80) = .slice uo x.y.m uc := by have h9 := hin 1 80 (by kernel_rfl) (by kernel_rfl); exact h9.1.trans (told_is _ h9.2 rfl)
                obtain ⟨v9, ws9, rv9, rs9, hDu, hBp, hB0, hN1, hN2⟩ := hJ
                have h2 : l.getD 2 false = false := hlf
                simp only [h2] at hDu
                refine wp_callF 12 _ _ rfl #[P0 b, .slice uo x.y.m uc] (by simp [e0, e1]) (cf12 _ _) ((send_arg w2 b v9 ws9 P ⟨uo, x.y.m, uc, x.y.bs⟩ w2.heap.size hDu.sm.sx (by_of_bod hB0 (unhide HYB) (unhide HYL)) (unhide HPL)).mono ?_)
                rintro e w3 ⟨rfl, v', ws', hR⟩
                exact ⟨_, rfl, _, rfl, told_of rfl, nextG (St := (S3a w b P r (P.send x.y.bs).1 p x.C (.slice uo x.y.m uc) x.y.bs)) (by omega) ⟨v', ws', rv9, rs9, hDu.mutS hR, hR.blk hDu.sm.sx hBp (by decide) (by decide), hR.bod hDu.sm.sx hB0, hN1.of_bods hB0.lt hR.bods, hN2⟩⟩
              | 3, ho =>
                obtain rfl := Option.some.inj ho
                have e0 := hout 11 (by kernel_rfl)
                replace e0 : a'.eval (.tmp 11) = _ := e0.trans rfl
                exact wp_move (.tmp 11) rfl _ e0 ⟨_, rfl, told_of rfl, keepG (St := (S3a w b P r (P.send x.y.bs).1 p x.C (.slice uo x.y.m uc) x.y.bs)) [2, 6] S3a.loc (by omega) (by decide) hJ⟩
              | 4, ho =>
                obtain rfl := Option.some.inj ho
                have e0 := hout 13 (by kernel_rfl)
                replace e0 : a'.eval (.tmp 13) = _ := e0.trans rfl
                exact o_fld37_1 (.tmp 13) rfl _ e0 ⟨_, rfl, told_of rfl, keepG (St := (S3a w b P r (P.send x.y.bs).1 p x.C (.slice uo x.y.m uc) x.y.bs)) [2, 6] S3a.loc (by omega) (by decide) hJ⟩
              | 5, ho =>
                obtain rfl := Option.some.inj ho
                have e0 : a'.eval (.tmp 83) = .pointer (some ⟨p, 1, none⟩) := by have h9 := hin 4 83 (by kernel_rfl) (by kernel_rfl); exact h9.1.trans (told_is _ h9.2 rfl)
                exact o_load33 (.tmp 83) rfl _ _ e0 (fits_cell hJ.choose_spec.choose_spec.choose_spec.choose_spec.2.1 1 _ rfl) ⟨_, rfl, told_of rfl, keepG (St := (S3a w b P r (P.send x.y.bs).1 p x.C (.slice uo x.y.m uc) x.y.bs)) [2, 6] S3a.loc (by omega) (by decide) hJ⟩
              | 6, ho =>
                obtain rfl := Option.some.inj ho
                have e0 : a'.eval (.tmp 82) = P0 r := by have h9 := hin 3 82 (by kernel_rfl) (by kernel_rfl); exact h9.1.trans (told_is _ h9.2 rfl)
                have e1 : a'.eval (.tmp 84) = x.y.v := by have h9 := hin 5 84 (by kernel_rfl) (by kernel_rfl); exact h9.1.trans (told_is _ h9.2 rfl)
                obtain ⟨v9, ws9, rv9, rs9, hDu, hBp, hB0, hN1, hN2⟩ := hJ
                have h6 : l.getD 6 false = false := hlf
                simp only [h6] at hDu
                refine wp_callF 13 _ _ rfl #[P0 r, x.y.v] (by simp [e0, e1]) (cf13 _ _) ((rsend_arg w2 r rv9 rs9 P x.y w.heap.size hDu.rx ((unhide HXO).y.kept hDu.k (by simp)) (unhide HPL)).mono ?_)
                rintro e w3 ⟨rfl, v', ws', hR⟩
                exact ⟨_, rfl, _, rfl, told_of rfl, nextG (St := (S3a w b P r (P.send x.y.bs).1 p x.C (.slice uo x.y.m uc) x.y.bs)) (by omega) ⟨v9, ws9, v', ws', hDu.mutR hR, hBp.kept hR.kept (hDu.rx.notin hBp (by decide) (by decide)), hR.bod hDu.rx hB0, hN1, hN2.of_bods hB0.lt hR.bods⟩⟩
              | 7, ho =>
                obtain rfl := Option.some.inj ho
                have e0 : a'.eval (.tmp 81) = .int .i64 (P.send x.y.bs).2 := by have h9 := hin 2 81 (by kernel_rfl) (by kernel_rfl); exact h9.1.trans (told_is _ h9.2 rfl)
                have e1 : a'.eval (.tmp 85) = .int .i64 (P.send x.y.bs).2 := by have h9 := hin 6 85 (by kernel_rfl) (by kernel_rfl); exact h9.1.trans (told_is _ h9.2 rfl)
                exact o_neqT3 (.tmp 81) (.tmp 85) rfl _ _ true (by simp) e0 e1 ⟨_, rfl, told_of rfl, keepG (St := (S3a w b P r (P.send x.y.bs).1 p x.C (.slice uo x.y.m uc) x.y.bs)) [2, 6] S3a.loc (by omega) (by decide) hJ⟩
            intro l vs w8 hl hJ htold
            have t0 : vs 0 = P0 b := told_is _ (htold 0 (by decide)) rfl
            have t1 : vs 1 = .slice uo x.y.m uc := told_is _ (htold 1 (by decide)) rfl
            have t2 : vs 2 = .int .i64 (P.send x.y.bs).2 := told_is _ (htold 2 (by decide)) rfl
            have t3 : vs 3 = P0 r := told_is _ (htold 3 (by decide)) rfl
            have t4 : vs 4 = .pointer (some ⟨p, 1, none⟩) := told_is _ (htold 4 (by decide)) rfl
            have t5 : vs 5 = x.y.v := told_is _ (htold 5 (by decide)) rfl
            have t6 : vs 6 = .int .i64 (P.send x.y.bs).2 := told_is _ (htold 6 (by decide)) rfl
            have t7 : vs 7 = .bool false := told_is _ (htold 7 (by decide)) rfl
            rw [show (List.range 8).map vs = [vs 0, vs 1, vs 2, vs 3, vs 4, vs 5, vs 6, vs 7] from rfl]
            simp only [t0, t1, t2, t3, t4, t5, t6, t7, putAll, Act.put, List.setIfInBounds_toArray, List.set_cons_succ, List.set_cons_zero]
            clear t0 t1 t2 t3 t4 t5 t6 t7 htold
            obtain ⟨v6, ws6, rv6, rs6, hDu, hBp, hB0, hN1, hN2⟩ := hJ
            simp only [hl 2 (by decide), hl 6 (by decide)] at hDu
            replace DU : Hid (Du w w8 b v6 ws6 (P.send x.y.bs).1 r rv6 rs6 (P.send x.y.bs).1) := hDu
            have HSH := hide hB0.shp
            have HNC1 := hide hN1
            have HNC2 := hide hN2
            replace HPN : Hid ((P.send x.y.bs).1.sent.length ≤ k + 1) := by have h1 := send_len P x.y.bs; have h2 := unhide HPN; exact (by omega : (P.send x.y.bs).1.sent.length ≤ k + 1)
            obtain ⟨P1, hP1⟩ : ∃ P1, P1 = (P.send x.y.bs).1 := ⟨_, rfl⟩
            rw [← hP1] at DU HPN
            clear hDu hBp hB0 hN1 hN2 hl DU5 HP5 HB5 HN15 HN25 hP1
            obtain ⟨M, hM⟩ : ∃ M, M = x.y.m := ⟨_, rfl⟩
            rw [← hM] at HSH HNC1 HNC2 HGE hmb ⊢
            clear hM HYL HYB
            go_wp2_with fail
            go_loopw [15] (fun i wr2 => ∃ j : Nat, j ≤ M ∧ i = .int .i64 j ∧ Hid (Shp wr2 (.slice uo M uc)) ∧ Hid (Du w wr2 b v6 ws6 P1 r rv6 rs6 P1)) (fun i _ => M - (intOf i).toNat)
            case atStart => exact ⟨0, by omega, rfl, HSH, DU⟩
            case round =>
              clear HSH DU
              obtain ⟨j, hj, rfl, HSH, DU⟩ := hrel
              by_cases hjt : j < M
              · have hjI : (j : Int) < (M : Int) := by omega
                rcases unhide HSH with ⟨c9, h9⟩ | ⟨g, m9, c9, us, h9, hB9, hlen9⟩
                · exfalso; cases h9; omega
                · injection h9 with h91 h92 h93
                  subst h91 h92
                  clear h93
                  have HB9 := hide hB9
                  have HLEN := hide hlen9
                  clear hB9 hlen9
                  go_wp2_with (
                    first
                    | (refine wpStoreV (T := 5) (b := g) (i := j) (v := .int .u8 99) (by rfl) (.tmp 95) (.const (.int .u8 99)) (by rfl) (by rfl) (by kernel_rfl) (by rfl) 5 us (unhide HB9) (st5 _ _ _ _ _ _ (unhide HB9) (by have h1 := unhide HLEN; omega)) ?_
                       intro V7 B7 K7
                       have HSH7 : Hid (Shp V7 (.slice (some ⟨g, 0, none⟩) M uc)) := (unhide HSH).set (unhide HB9) B7 K7
                       replace DU := hide ((unhide DU).spoil1 (m := M) (c := uc) rfl (unhide HB9) B7 K7 (unhide HNC1) (unhide HNC2) (unhide HGE g rfl))
                       clear B7 K7))
                  go_roundw
                  case rel => exact ⟨j + 1, by omega, by go_num, HSH7, DU⟩
                  case measure => simp [intOf]; omega
              · have hjI : ¬ (j : Int) < (M : Int) := by omega
                obtain ⟨P5, hP5⟩ : ∃ P5, P5 = P1 := ⟨_, rfl⟩
                rw [← hP5] at DU HPN
                obtain ⟨v5, hv5⟩ : ∃ z, z = v6 := ⟨_, rfl⟩
                obtain ⟨ws5, hw5⟩ : ∃ z, z = ws6 := ⟨_, rfl⟩
                obtain ⟨rv5, hr5⟩ : ∃ z, z = rv6 := ⟨_, rfl⟩
                obtain ⟨rs5, hs5⟩ : ∃ z, z = rs6 := ⟨_, rfl⟩
                rw [← hv5, ← hw5, ← hr5, ← hs5] at DU
                clear hP5 hv5 hw5 hr5 hs5
                obtain ⟨ro5, rc5, hrv5, _, _⟩ := (unhide DU).rx.sl
                have HRV := hide hrv5
                have HRH := hide (unhide DU).rx.head
                have HLE : Hid ((rs5.length : Int) - (P5.known : Int) = ws5.length ∧ rs5.length ≤ 1000 ∧ P5.known ≤ rs5.length) := by have h1 := (unhide DU).sm.sx.len; have h2 := (unhide DU).rx.len; have h3 := (unhide DU).rx.ok.many; exact ⟨by omega, by omega, by omega⟩
                clear hrv5
                go_wp2_with fail
                refine wp_region_any mixed (wpAny_tq 31 rfl (by kernel_rfl) [some (P0 b), some (.int .i64 ws5.length), some (P0 r), some (P0 r), some (.pointer (some ⟨r, 3, none⟩)), some (rv5), some (.int .i64 rs5.length), some (P0 r), some (P0 r), some (.pointer (some ⟨r, 4, none⟩)), some (.int .i64 P5.known), some (.int .i64 ws5.length), some (.bool false), some (.bool false), some (P0 b), some (.int .i64 P5.got), some (P0 r), some (P0 r), some (.pointer (some ⟨r, 6, none⟩)), some (.int .i64 P5.got), some (.bool false), some (.bool false), some (.bool false), some (P0 b), some (.bool P5.owes), some (P0 r), some (P0 r), some (.pointer (some ⟨r, 7, none⟩)), some (.bool P5.owes), some (.bool false), some (.bool false)] rfl (by kernel_rfl) (by kernel_rfl) ?_ ?_)
                · intro i o' hi hsk ho a' w2 hout hin hk2
                  replace hk2 : Kept [] wr w2 := ⟨hk2.os, hk2.tape, hk2.output, hk2.size, hk2.block⟩
                  match i, ho, hsk with
                  | 0, ho, hsk =>
                    obtain rfl := Option.some.inj ho
                    exact wp_move (.tmp 9) rfl _ ((hout 9 (by kernel_rfl)).trans rfl) ⟨_, rfl, tq_is _ _ _ _ rfl, Kept.refl _ _, fun _ _ _ _ _ => trivial⟩
                  | 1, ho, hsk =>
                    obtain rfl := Option.some.inj ho
                    have e0 : a'.eval (.tmp 168) = P0 b := is_tq (hin 0 168 (by kernel_rfl) (by kernel_rfl)) rfl
                    refine wp_callF 22 _ _ rfl #[P0 b] (by simp [e0]) (cf22 _ _) ((waits22 b v5 ws5 P5 _ ((unhide DU).sm.sx.kept0 hk2)).mono ?_)
                    rintro e w3 ⟨rfl, q3, rfl⟩
                    exact ⟨_, rfl, _, rfl, tq_is _ _ _ _ rfl, kept_drewN _ _ _, fun _ _ _ _ _ => trivial⟩
                  | 2, ho, hsk =>
                    obtain rfl := Option.some.inj ho
                    exact wp_move (.tmp 11) rfl _ ((hout 11 (by kernel_rfl)).trans rfl) ⟨_, rfl, tq_is _ _ _ _ rfl, Kept.refl _ _, fun _ _ _ _ _ => trivial⟩
                  | 3, ho, hsk =>
                    obtain rfl := Option.some.inj ho
                    have e0 : a'.eval (.tmp 170) = P0 r := is_tq (hin 2 170 (by kernel_rfl) (by kernel_rfl)) rfl
                    exact o_nil (.tmp 170) rfl _ e0 ⟨_, rfl, tq_is _ _ _ _ rfl, Kept.refl _ _, fun _ _ _ _ _ => trivial⟩
                  | 4, ho, hsk =>
                    obtain rfl := Option.some.inj ho
                    have e0 : a'.eval (.tmp 171) = P0 r := is_tq (hin 3 171 (by kernel_rfl) (by kernel_rfl)) rfl
                    exact o_fld32_3 (.tmp 171) rfl r e0 ⟨_, rfl, tq_is _ _ _ _ rfl, Kept.refl _ _, fun _ _ _ _ _ => trivial⟩
                  | 5, ho, hsk =>
                    obtain rfl := Option.some.inj ho
                    have e0 : a'.eval (.tmp 172) = .pointer (some ⟨r, 3, none⟩) := is_tq (hin 4 172 (by kernel_rfl) (by kernel_rfl)) rfl
                    exact o_load30 (.tmp 172) rfl _ _ e0 (fits_cell ((unhide HRH).kept hk2 (by simp)) 3 _ rfl) ⟨_, rfl, tq_is _ _ _ _ rfl, Kept.refl _ _, fun _ _ _ _ _ => trivial⟩
                  | 6, ho, hsk =>
                    obtain rfl := Option.some.inj ho
                    have e0 : a'.eval (.tmp 173) = rv5 := is_tq (hin 5 173 (by kernel_rfl) (by kernel_rfl)) rfl
                    exact o_len30 (.tmp 173) rfl ro5 rs5.length rc5 (by rw [e0]; exact unhide HRV) ⟨_, rfl, tq_is _ _ _ _ rfl, Kept.refl _ _, fun _ _ _ _ _ => trivial⟩
                  | 7, ho, hsk =>
                    obtain rfl := Option.some.inj ho
                    exact wp_move (.tmp 11) rfl _ ((hout 11 (by kernel_rfl)).trans rfl) ⟨_, rfl, tq_is _ _ _ _ rfl, Kept.refl _ _, fun _ _ _ _ _ => trivial⟩
                  | 8, ho, hsk =>
                    obtain rfl := Option.some.inj ho
                    have e0 : a'.eval (.tmp 175) = P0 r := is_tq (hin 7 175 (by kernel_rfl) (by kernel_rfl)) rfl
                    exact o_nil (.tmp 175) rfl _ e0 ⟨_, rfl, tq_is _ _ _ _ rfl, Kept.refl _ _, fun _ _ _ _ _ => trivial⟩
                  | 9, ho, hsk =>
                    obtain rfl := Option.some.inj ho
                    have e0 : a'.eval (.tmp 176) = P0 r := is_tq (hin 8 176 (by kernel_rfl) (by kernel_rfl)) rfl
                    exact o_fld32_4 (.tmp 176) rfl r e0 ⟨_, rfl, tq_is _ _ _ _ rfl, Kept.refl _ _, fun _ _ _ _ _ => trivial⟩
                  | 10, ho, hsk =>
                    obtain rfl := Option.some.inj ho
                    have e0 : a'.eval (.tmp 177) = .pointer (some ⟨r, 4, none⟩) := is_tq (hin 9 177 (by kernel_rfl) (by kernel_rfl)) rfl
                    exact o_load3 (.tmp 177) rfl _ _ e0 (fits_cell ((unhide HRH).kept hk2 (by simp)) 4 _ rfl) ⟨_, rfl, tq_is _ _ _ _ rfl, Kept.refl _ _, fun _ _ _ _ _ => trivial⟩
                  | 11, ho, hsk =>
                    obtain rfl := Option.some.inj ho
                    have e0 : a'.eval (.tmp 174) = .int .i64 rs5.length := is_tq (hin 6 174 (by kernel_rfl) (by kernel_rfl)) rfl
                    have e1 : a'.eval (.tmp 178) = .int .i64 P5.known := is_tq (hin 10 178 (by kernel_rfl) (by kernel_rfl)) rfl
                    refine o_sub3 (.tmp 174) (.tmp 178) rfl _ _ (by have := unhide HLE; omega) e0 e1 ?_
                    rw [(unhide HLE).1]
                    exact ⟨_, rfl, tq_is _ _ _ _ rfl, Kept.refl _ _, fun _ _ _ _ _ => trivial⟩
                  | 12, ho, hsk =>
                    obtain rfl := Option.some.inj ho
                    have e0 : a'.eval (.tmp 169) = .int .i64 ws5.length := is_tq (hin 1 169 (by kernel_rfl) (by kernel_rfl)) rfl
                    have e1 : a'.eval (.tmp 179) = .int .i64 ws5.length := is_tq (hin 11 179 (by kernel_rfl) (by kernel_rfl)) rfl
                    exact o_neqT3 (.tmp 169) (.tmp 179) rfl _ _ true (by simp) e0 e1 ⟨_, rfl, tq_is _ _ _ _ rfl, Kept.refl _ _, fun _ _ _ _ _ => trivial⟩
                  | 13, ho, hsk =>
                    obtain rfl := Option.some.inj ho
                    have e0 : a'.eval (.tmp 180) = .bool false := is_tq (hin 12 180 (by kernel_rfl) (by kernel_rfl)) rfl
                    exact wp_move (.tmp 180) rfl _ e0 ⟨_, rfl, tq_is _ _ _ _ rfl, Kept.refl _ _, fun _ _ _ _ _ => trivial⟩
                  | 14, ho, hsk =>
                    obtain rfl := Option.some.inj ho
                    exact wp_move (.tmp 9) rfl _ ((hout 9 (by kernel_rfl)).trans rfl) ⟨_, rfl, tq_is _ _ _ _ rfl, Kept.refl _ _, fun _ _ _ _ _ => trivial⟩
                  | 15, ho, hsk =>
                    obtain rfl := Option.some.inj ho
                    have e0 : a'.eval (.tmp 182) = P0 b := is_tq (hin 14 182 (by kernel_rfl) (by kernel_rfl)) rfl
                    refine wp_callF 23 _ _ rfl #[P0 b] (by simp [e0]) (cf23 _ _) ((got23 b v5 ws5 P5 _ ((unhide DU).sm.sx.kept0 hk2)).mono ?_)
                    rintro e w3 ⟨rfl, q3, rfl⟩
                    exact ⟨_, rfl, _, rfl, tq_is _ _ _ _ rfl, kept_drewN _ _ _, fun _ _ _ _ _ => trivial⟩
                  | 16, ho, hsk =>
                    obtain rfl := Option.some.inj ho
                    exact wp_move (.tmp 11) rfl _ ((hout 11 (by kernel_rfl)).trans rfl) ⟨_, rfl, tq_is _ _ _ _ rfl, Kept.refl _ _, fun _ _ _ _ _ => trivial⟩
                  | 17, ho, hsk =>
                    obtain rfl := Option.some.inj ho
                    have e0 : a'.eval (.tmp 184) = P0 r := is_tq (hin 16 184 (by kernel_rfl) (by kernel_rfl)) rfl
                    exact o_nil (.tmp 184) rfl _ e0 ⟨_, rfl, tq_is _ _ _ _ rfl, Kept.refl _ _, fun _ _ _ _ _ => trivial⟩
                  | 18, ho, hsk =>
                    obtain rfl := Option.some.inj ho
                    have e0 : a'.eval (.tmp 185) = P0 r := is_tq (hin 17 185 (by kernel_rfl) (by kernel_rfl)) rfl
                    exact o_fld32_6 (.tmp 185) rfl r e0 ⟨_, rfl, tq_is _ _ _ _ rfl, Kept.refl _ _, fun _ _ _ _ _ => trivial⟩
                  | 19, ho, hsk =>
                    obtain rfl := Option.some.inj ho
                    have e0 : a'.eval (.tmp 186) = .pointer (some ⟨r, 6, none⟩) := is_tq (hin 18 186 (by kernel_rfl) (by kernel_rfl)) rfl
                    exact o_load2 (.tmp 186) rfl _ _ e0 (fits_cell ((unhide HRH).kept hk2 (by simp)) 6 _ rfl) ⟨_, rfl, tq_is _ _ _ _ rfl, Kept.refl _ _, fun _ _ _ _ _ => trivial⟩
                  | 20, ho, hsk =>
                    obtain rfl := Option.some.inj ho
                    have e0 : a'.eval (.tmp 183) = .int .i64 P5.got := is_tq (hin 15 183 (by kernel_rfl) (by kernel_rfl)) rfl
                    have e1 : a'.eval (.tmp 187) = .int .i64 P5.got := is_tq (hin 19 187 (by kernel_rfl) (by kernel_rfl)) rfl
                    exact o_neqT2 (.tmp 183) (.tmp 187) rfl _ _ true (by simp) e0 e1 ⟨_, rfl, tq_is _ _ _ _ rfl, Kept.refl _ _, fun _ _ _ _ _ => trivial⟩
                  | 21, ho, hsk =>
                    obtain rfl := Option.some.inj ho
                    have e0 : a'.eval (.tmp 181) = .bool false := is_tq (hin 13 181 (by kernel_rfl) (by kernel_rfl)) rfl
                    have e1 : a'.eval (.tmp 188) = .bool false := is_tq (hin 20 188 (by kernel_rfl) (by kernel_rfl)) rfl
                    exact o_pickOr0 (.tmp 181) (.tmp 188) rfl _ e0 e1 ⟨_, rfl, tq_is _ _ _ _ rfl, Kept.refl _ _, fun _ _ _ _ _ => trivial⟩
                  | 22, ho, hsk =>
                    obtain rfl := Option.some.inj ho
                    have e0 : a'.eval (.tmp 189) = .bool false := is_tq (hin 21 189 (by kernel_rfl) (by kernel_rfl)) rfl
                    exact wp_move (.tmp 189) rfl _ e0 ⟨_, rfl, tq_is _ _ _ _ rfl, Kept.refl _ _, fun _ _ _ _ _ => trivial⟩
                  | 23, ho, hsk =>
                    obtain rfl := Option.some.inj ho
                    exact wp_move (.tmp 9) rfl _ ((hout 9 (by kernel_rfl)).trans rfl) ⟨_, rfl, tq_is _ _ _ _ rfl, Kept.refl _ _, fun _ _ _ _ _ => trivial⟩
                  | 24, ho, hsk =>
                    obtain rfl := Option.some.inj ho
                    have e0 : a'.eval (.tmp 191) = P0 b := is_tq (hin 23 191 (by kernel_rfl) (by kernel_rfl)) rfl
                    refine wp_callF 24 _ _ rfl #[P0 b] (by simp [e0]) (cf24 _ _) ((owes24 b v5 ws5 P5 _ ((unhide DU).sm.sx.kept0 hk2)).mono ?_)
                    rintro e w3 ⟨rfl, q3, rfl⟩
                    exact ⟨_, rfl, _, rfl, tq_is _ _ _ _ rfl, kept_drewN _ _ _, fun _ _ _ _ _ => trivial⟩
                  | 25, ho, hsk =>
                    obtain rfl := Option.some.inj ho
                    exact wp_move (.tmp 11) rfl _ ((hout 11 (by kernel_rfl)).trans rfl) ⟨_, rfl, tq_is _ _ _ _ rfl, Kept.refl _ _, fun _ _ _ _ _ => trivial⟩
                  | 26, ho, hsk =>
                    obtain rfl := Option.some.inj ho
                    have e0 : a'.eval (.tmp 193) = P0 r := is_tq (hin 25 193 (by kernel_rfl) (by kernel_rfl)) rfl
                    exact o_nil (.tmp 193) rfl _ e0 ⟨_, rfl, tq_is _ _ _ _ rfl, Kept.refl _ _, fun _ _ _ _ _ => trivial⟩
                  | 27, ho, hsk =>
                    obtain rfl := Option.some.inj ho
                    have e0 : a'.eval (.tmp 194) = P0 r := is_tq (hin 26 194 (by kernel_rfl) (by kernel_rfl)) rfl
                    exact o_fld32_7 (.tmp 194) rfl r e0 ⟨_, rfl, tq_is _ _ _ _ rfl, Kept.refl _ _, fun _ _ _ _ _ => trivial⟩
                  | 28, ho, hsk =>
                    obtain rfl := Option.some.inj ho
                    have e0 : a'.eval (.tmp 195) = .pointer (some ⟨r, 7, none⟩) := is_tq (hin 27 195 (by kernel_rfl) (by kernel_rfl)) rfl
                    exact o_load4 (.tmp 195) rfl _ _ e0 (fits_cell ((unhide HRH).kept hk2 (by simp)) 7 _ rfl) ⟨_, rfl, tq_is _ _ _ _ rfl, Kept.refl _ _, fun _ _ _ _ _ => trivial⟩
                  | 29, ho, hsk =>
                    obtain rfl := Option.some.inj ho
                    have e0 : a'.eval (.tmp 192) = .bool P5.owes := is_tq (hin 24 192 (by kernel_rfl) (by kernel_rfl)) rfl
                    have e1 : a'.eval (.tmp 196) = .bool P5.owes := is_tq (hin 28 196 (by kernel_rfl) (by kernel_rfl)) rfl
                    exact o_neq4 (.tmp 192) (.tmp 196) rfl P5.owes e0 e1 ⟨_, rfl, tq_is _ _ _ _ rfl, Kept.refl _ _, fun _ _ _ _ _ => trivial⟩
                  | 30, ho, hsk =>
                    obtain rfl := Option.some.inj ho
                    have e0 : a'.eval (.tmp 190) = .bool false := is_tq (hin 22 190 (by kernel_rfl) (by kernel_rfl)) rfl
                    have e1 : a'.eval (.tmp 197) = .bool false := is_tq (hin 29 197 (by kernel_rfl) (by kernel_rfl)) rfl
                    exact o_pickOr0 (.tmp 190) (.tmp 197) rfl _ e0 e1 ⟨_, rfl, tq_is _ _ _ _ rfl, Kept.refl _ _, fun _ _ _ _ _ => trivial⟩
                intro X9 hk9
                replace hk9 : Kept [] wr X9 := ⟨hk9.os, hk9.tape, hk9.output, hk9.size, hk9.block⟩
                simp only [valsQ, List.map_cons, List.map_nil, Option.getD_some, List.take_succ_cons, List.take_zero, putAll, Act.put, List.setIfInBounds_toArray, List.set_cons_succ, List.set_cons_zero]
                refine wpAny_done (by kernel_rfl) ?_ _
                replace DU := hide ((unhide DU).step hk9)
                clear hk9 HRH
                go_wp2_with fail
                go_roundw
                case rel => exact ⟨k + 1, v5, ws5, rv5, rs5, P5, by omega, by omega, by go_num, DU, HPN⟩
                case measure => simp [intOf]; omega
          · by_cases hk2 : x.kind = 2
            · skip
              rw [hk2] at hp0
              go_wp2_with (
                first
                | (go_at_call 14
                   refine (fresh14 b v ws P _ (unhide DU).sm.sx).mono ?_
                   rintro e V5 ⟨dv, L, rfl, hD, hL, hR⟩
                   have TD := hide (Td.of (unhide DU) hD hL hR)
                   have HOK := hide (unhide DU).rx.ok
                   clear hD hL hR hp0 DU)
                | (go_at_call 16
                   refine (rfresh16 r rv rs P _ (unhide TD).du.rx).mono ?_
                   rintro e V6 ⟨dv2, L2, rfl, hD, hL, hR⟩
                   replace TD := hide ((unhide TD).mutR hR)
                   have HD2 := hide hD
                   have HL2 := hide hL
                   clear hD hL hR)
                | (go_at_call 15
                   refine (same15 _ _ _ _ L L2 _ (unhide TD).dl (unhide HD2) (by rw [(unhide TD).map, unhide HL2]) (td_len (unhide HPL) (unhide TD).map)).mono ?_
                   rintro e V7 ⟨rfl, hk⟩
                   replace TD := hide ((unhide TD).step hk)
                   clear hk HD2 HL2)
                | (go_at_call 17
                   refine (over17 _ _ L _ (unhide TD).dl (td_len (unhide HPL) (unhide TD).map) (td_small (unhide HOK) (unhide TD).map)).mono ?_
                   rintro e V8 ⟨rfl, hk⟩
                   have DU := hide ((unhide TD).over hk)
                   replace HPN : Hid (P.toldP.sent.length ≤ k + 1) := by have h2 := unhide HPN; exact (by show P.sent.length ≤ k + 1; omega : P.toldP.sent.length ≤ k + 1)
                   clear hk TD
                   refine Stp.go ?_))
              constructor
              obtain ⟨P5, hP5⟩ : ∃ P5, P5 = P.toldP := ⟨_, rfl⟩
              rw [← hP5] at DU HPN
              obtain ⟨v5, hv5⟩ : ∃ z, z = v := ⟨_, rfl⟩
              obtain ⟨ws5, hw5⟩ : ∃ z, z = ws := ⟨_, rfl⟩
              obtain ⟨rv5, hr5⟩ : ∃ z, z = rv := ⟨_, rfl⟩
              obtain ⟨rs5, hs5⟩ : ∃ z, z = rs := ⟨_, rfl⟩
              rw [← hv5, ← hw5, ← hr5, ← hs5] at DU
              clear hP5 hv5 hw5 hr5 hs5
              obtain ⟨ro5, rc5, hrv5, _, _⟩ := (unhide DU).rx.sl
              have HRV := hide hrv5
              have HRH := hide (unhide DU).rx.head
              have HLE : Hid ((rs5.length : Int) - (P5.known : Int) = ws5.length ∧ rs5.length ≤ 1000 ∧ P5.known ≤ rs5.length) := by have h1 := (unhide DU).sm.sx.len; have h2 := (unhide DU).rx.len; have h3 := (unhide DU).rx.ok.many; exact ⟨by omega, by omega, by omega⟩
              clear hrv5
              go_wp2_with fail
              refine wp_region_any mixed (wpAny_tq 31 rfl (by kernel_rfl) [some (P0 b), some (.int .i64 ws5.length), some (P0 r), some (P0 r), some (.pointer (some ⟨r, 3, none⟩)), some (rv5), some (.int .i64 rs5.length), some (P0 r), some (P0 r), some (.pointer (some ⟨r, 4, none⟩)), some (.int .i64 P5.known), some (.int .i64 ws5.length), some (.bool false), some (.bool false), some (P0 b), some (.int .i64 P5.got), some (P0 r), some (P0 r), some (.pointer (some ⟨r, 6, none⟩)), some (.int .i64 P5.got), some (.bool false), some (.bool false), some (.bool false), some (P0 b), some (.bool P5.owes), some (P0 r), some (P0 r), some (.pointer (some ⟨r, 7, none⟩)), some (.bool P5.owes), some (.bool false), some (.bool false)] rfl (by kernel_rfl) (by kernel_rfl) ?_ ?_)
              · intro i o' hi hsk ho a' w2 hout hin hk2
                replace hk2 : Kept [] V8 w2 := ⟨hk2.os, hk2.tape, hk2.output, hk2.size, hk2.block⟩
                match i, ho, hsk with
                | 0, ho, hsk =>
                  obtain rfl := Option.some.inj ho
                  exact wp_move (.tmp 9) rfl _ ((hout 9 (by kernel_rfl)).trans rfl) ⟨_, rfl, tq_is _ _ _ _ rfl, Kept.refl _ _, fun _ _ _ _ _ => trivial⟩
                | 1, ho, hsk =>
                  obtain rfl := Option.some.inj ho
                  have e0 : a'.eval (.tmp 168) = P0 b := is_tq (hin 0 168 (by kernel_rfl) (by kernel_rfl)) rfl
                  refine wp_callF 22 _ _ rfl #[P0 b] (by simp [e0]) (cf22 _ _) ((waits22 b v5 ws5 P5 _ ((unhide DU).sm.sx.kept0 hk2)).mono ?_)
                  rintro e w3 ⟨rfl, q3, rfl⟩
                  exact ⟨_, rfl, _, rfl, tq_is _ _ _ _ rfl, kept_drewN _ _ _, fun _ _ _ _ _ => trivial⟩
                | 2, ho, hsk =>
                  obtain rfl := Option.some.inj ho
                  exact wp_move (.tmp 11) rfl _ ((hout 11 (by kernel_rfl)).trans rfl) ⟨_, rfl, tq_is _ _ _ _ rfl, Kept.refl _ _, fun _ _ _ _ _ => trivial⟩
                | 3, ho, hsk =>
                  obtain rfl := Option.some.inj ho
                  have e0 : a'.eval (.tmp 170) = P0 r := is_tq (hin 2 170 (by kernel_rfl) (by kernel_rfl)) rfl
                  exact o_nil (.tmp 170) rfl _ e0 ⟨_, rfl, tq_is _ _ _ _ rfl, Kept.refl _ _, fun _ _ _ _ _ => trivial⟩
                | 4, ho, hsk =>
                  obtain rfl := Option.some.inj ho
                  have e0 : a'.eval (.tmp 171) = P0 r := is_tq (hin 3 171 (by kernel_rfl) (by kernel_rfl)) rfl
                  exact o_fld32_3 (.tmp 171) rfl r e0 ⟨_, rfl, tq_is _ _ _ _ rfl, Kept.refl _ _, fun _ _ _ _ _ => trivial⟩
                | 5, ho, hsk =>
                  obtain rfl := Option.some.inj ho
                  have e0 : a'.eval (.tmp 172) = .pointer (some ⟨r, 3, none⟩) := is_tq (hin 4 172 (by kernel_rfl) (by kernel_rfl)) rfl
                  exact o_load30 (.tmp 172) rfl _ _ e0 (fits_cell ((unhide HRH).kept hk2 (by simp)) 3 _ rfl) ⟨_, rfl, tq_is _ _ _ _ rfl, Kept.refl _ _, fun _ _ _ _ _ => trivial⟩
                | 6, ho, hsk =>
                  obtain rfl := Option.some.inj ho
                  have e0 : a'.eval (.tmp 173) = rv5 := is_tq (hin 5 173 (by kernel_rfl) (by kernel_rfl)) rfl
                  exact o_len30 (.tmp 173) rfl ro5 rs5.length rc5 (by rw [e0]; exact unhide HRV) ⟨_, rfl, tq_is _ _ _ _ rfl, Kept.refl _ _, fun _ _ _ _ _ => trivial⟩
                | 7, ho, hsk =>
                  obtain rfl := Option.some.inj ho
                  exact wp_move (.tmp 11) rfl _ ((hout 11 (by kernel_rfl)).trans rfl) ⟨_, rfl, tq_is _ _ _ _ rfl, Kept.refl _ _, fun _ _ _ _ _ => trivial⟩
                | 8, ho, hsk =>
                  obtain rfl := Option.some.inj ho
                  have e0 : a'.eval (.tmp 175) = P0 r := is_tq (hin 7 175 (by kernel_rfl) (by kernel_rfl)) rfl
                  exact o_nil (.tmp 175) rfl _ e0 ⟨_, rfl, tq_is _ _ _ _ rfl, Kept.refl _ _, fun _ _ _ _ _ => trivial⟩
                | 9, ho, hsk =>
                  obtain rfl := Option.some.inj ho
                  have e0 : a'.eval (.tmp 176) = P0 r := is_tq (hin 8 176 (by kernel_rfl) (by kernel_rfl)) rfl
                  exact o_fld32_4 (.tmp 176) rfl r e0 ⟨_, rfl, tq_is _ _ _ _ rfl, Kept.refl _ _, fun _ _ _ _ _ => trivial⟩
                | 10, ho, hsk =>
                  obtain rfl := Option.some.inj ho
                  have e0 : a'.eval (.tmp 177) = .pointer (some ⟨r, 4, none⟩) := is_tq (hin 9 177 (by kernel_rfl) (by kernel_rfl)) rfl
                  exact o_load3 (.tmp 177) rfl _ _ e0 (fits_cell ((unhide HRH).kept hk2 (by simp)) 4 _ rfl) ⟨_, rfl, tq_is _ _ _ _ rfl, Kept.refl _ _, fun _ _ _ _ _ => trivial⟩
                | 11, ho, hsk =>
                  obtain rfl := Option.some.inj ho
                  have e0 : a'.eval (.tmp 174) = .int .i64 rs5.length := is_tq (hin 6 174 (by kernel_rfl) (by kernel_rfl)) rfl
                  have e1 : a'.eval (.tmp 178) = .int .i64 P5.known := is_tq (hin 10 178 (by kernel_rfl) (by kernel_rfl)) rfl
                  refine o_sub3 (.tmp 174) (.tmp 178) rfl _ _ (by have := unhide HLE; omega) e0 e1 ?_
                  rw [(unhide HLE).1]
                  exact ⟨_, rfl, tq_is _ _ _ _ rfl, Kept.refl _ _, fun _ _ _ _ _ => trivial⟩
                | 12, ho, hsk =>
                  obtain rfl := Option.some.inj ho
                  have e0 : a'.eval (.tmp 169) = .int .i64 ws5.length := is_tq (hin 1 169 (by kernel_rfl) (by kernel_rfl)) rfl
                  have e1 : a'.eval (.tmp 179) = .int .i64 ws5.length := is_tq (hin 11 179 (by kernel_rfl) (by kernel_rfl)) rfl
                  exact o_neqT3 (.tmp 169) (.tmp 179) rfl _ _ true (by simp) e0 e1 ⟨_, rfl, tq_is _ _ _ _ rfl, Kept.refl _ _, fun _ _ _ _ _ => trivial⟩
                | 13, ho, hsk =>
                  obtain rfl := Option.some.inj ho
                  have e0 : a'.eval (.tmp 180) = .bool false := is_tq (hin 12 180 (by kernel_rfl) (by kernel_rfl)) rfl
                  exact wp_move (.tmp 180) rfl _ e0 ⟨_, rfl, tq_is _ _ _ _ rfl, Kept.refl _ _, fun _ _ _ _ _ => trivial⟩
                | 14, ho, hsk =>
                  obtain rfl := Option.some.inj ho
                  exact wp_move (.tmp 9) rfl _ ((hout 9 (by kernel_rfl)).trans rfl) ⟨_, rfl, tq_is _ _ _ _ rfl, Kept.refl _ _, fun _ _ _ _ _ => trivial⟩
                | 15, ho, hsk =>
                  obtain rfl := Option.some.inj ho
                  have e0 : a'.eval (.tmp 182) = P0 b := is_tq (hin 14 182 (by kernel_rfl) (by kernel_rfl)) rfl
                  refine wp_callF 23 _ _ rfl #[P0 b] (by simp [e0]) (cf23 _ _) ((got23 b v5 ws5 P5 _ ((unhide DU).sm.sx.kept0 hk2)).mono ?_)
                  rintro e w3 ⟨rfl, q3, rfl⟩
                  exact ⟨_, rfl, _, rfl, tq_is _ _ _ _ rfl, kept_drewN _ _ _, fun _ _ _ _ _ => trivial⟩
                | 16, ho, hsk =>
                  obtain rfl := Option.some.inj ho
                  exact wp_move (.tmp 11) rfl _ ((hout 11 (by kernel_rfl)).trans rfl) ⟨_, rfl, tq_is _ _ _ _ rfl, Kept.refl _ _, fun _ _ _ _ _ => trivial⟩
                | 17, ho, hsk =>
                  obtain rfl := Option.some.inj ho
                  have e0 : a'.eval (.tmp 184) = P0 r := is_tq (hin 16 184 (by kernel_rfl) (by kernel_rfl)) rfl
                  exact o_nil (.tmp 184) rfl _ e0 ⟨_, rfl, tq_is _ _ _ _ rfl, Kept.refl _ _, fun _ _ _ _ _ => trivial⟩
                | 18, ho, hsk =>
                  obtain rfl := Option.some.inj ho
                  have e0 : a'.eval (.tmp 185) = P0 r := is_tq (hin 17 185 (by kernel_rfl) (by kernel_rfl)) rfl
                  exact o_fld32_6 (.tmp 185) rfl r e0 ⟨_, rfl, tq_is _ _ _ _ rfl, Kept.refl _ _, fun _ _ _ _ _ => trivial⟩
                | 19, ho, hsk =>
                  obtain rfl := Option.some.inj ho
                  have e0 : a'.eval (.tmp 186) = .pointer (some ⟨r, 6, none⟩) := is_tq (hin 18 186 (by kernel_rfl) (by kernel_rfl)) rfl
                  exact o_load2 (.tmp 186) rfl _ _ e0 (fits_cell ((unhide HRH).kept hk2 (by simp)) 6 _ rfl) ⟨_, rfl, tq_is _ _ _ _ rfl, Kept.refl _ _, fun _ _ _ _ _ => trivial⟩
                | 20, ho, hsk =>
                  obtain rfl := Option.some.inj ho
                  have e0 : a'.eval (.tmp 183) = .int .i64 P5.got := is_tq (hin 15 183 (by kernel_rfl) (by kernel_rfl)) rfl
                  have e1 : a'.eval (.tmp 187) = .int .i64 P5.got := is_tq (hin 19 187 (by kernel_rfl) (by kernel_rfl)) rfl
                  exact o_neqT2 (.tmp 183) (.tmp 187) rfl _ _ true (by simp) e0 e1 ⟨_, rfl, tq_is _ _ _ _ rfl, Kept.refl _ _, fun _ _ _ _ _ => trivial⟩
                | 21, ho, hsk =>
                  obtain rfl := Option.some.inj ho
                  have e0 : a'.eval (.tmp 181) = .bool false := is_tq (hin 13 181 (by kernel_rfl) (by kernel_rfl)) rfl
                  have e1 : a'.eval (.tmp 188) = .bool false := is_tq (hin 20 188 (by kernel_rfl) (by kernel_rfl)) rfl
                  exact o_pickOr0 (.tmp 181) (.tmp 188) rfl _ e0 e1 ⟨_, rfl, tq_is _ _ _ _ rfl, Kept.refl _ _, fun _ _ _ _ _ => trivial⟩
                | 22, ho, hsk =>
                  obtain rfl := Option.some.inj ho
                  have e0 : a'.eval (.tmp 189) = .bool false := is_tq (hin 21 189 (by kernel_rfl) (by kernel_rfl)) rfl
                  exact wp_move (.tmp 189) rfl _ e0 ⟨_, rfl, tq_is _ _ _ _ rfl, Kept.refl _ _, fun _ _ _ _ _ => trivial⟩
                | 23, ho, hsk =>
                  obtain rfl := Option.some.inj ho
                  exact wp_move (.tmp 9) rfl _ ((hout 9 (by kernel_rfl)).trans rfl) ⟨_, rfl, tq_is _ _ _ _ rfl, Kept.refl _ _, fun _ _ _ _ _ => trivial⟩
                | 24, ho, hsk =>
                  obtain rfl := Option.some.inj ho
                  have e0 : a'.eval (.tmp 191) = P0 b := is_tq (hin 23 191 (by kernel_rfl) (by kernel_rfl)) rfl
                  refine wp_callF 24 _ _ rfl #[P0 b] (by simp [e0]) (cf24 _ _) ((owes24 b v5 ws5 P5 _ ((unhide DU).sm.sx.kept0 hk2)).mono ?_)
                  rintro e w3 ⟨rfl, q3, rfl⟩
                  exact ⟨_, rfl, _, rfl, tq_is _ _ _ _ rfl, kept_drewN _ _ _, fun _ _ _ _ _ => trivial⟩
                | 25, ho, hsk =>
                  obtain rfl := Option.some.inj ho
                  exact wp_move (.tmp 11) rfl _ ((hout 11 (by kernel_rfl)).trans rfl) ⟨_, rfl, tq_is _ _ _ _ rfl, Kept.refl _ _, fun _ _ _ _ _ => trivial⟩
                | 26, ho, hsk =>
                  obtain rfl := Option.some.inj ho
                  have e0 : a'.eval (.tmp 193) = P0 r := is_tq (hin 25 193 (by kernel_rfl) (by kernel_rfl)) rfl
                  exact o_nil (.tmp 193) rfl _ e0 ⟨_, rfl, tq_is _ _ _ _ rfl, Kept.refl _ _, fun _ _ _ _ _ => trivial⟩
                | 27, ho, hsk =>
                  obtain rfl := Option.some.inj ho
                  have e0 : a'.eval (.tmp 194) = P0 r := is_tq (hin 26 194 (by kernel_rfl) (by kernel_rfl)) rfl
                  exact o_fld32_7 (.tmp 194) rfl r e0 ⟨_, rfl, tq_is _ _ _ _ rfl, Kept.refl _ _, fun _ _ _ _ _ => trivial⟩
                | 28, ho, hsk =>
                  obtain rfl := Option.some.inj ho
                  have e0 : a'.eval (.tmp 195) = .pointer (some ⟨r, 7, none⟩) := is_tq (hin 27 195 (by kernel_rfl) (by kernel_rfl)) rfl
                  exact o_load4 (.tmp 195) rfl _ _ e0 (fits_cell ((unhide HRH).kept hk2 (by simp)) 7 _ rfl) ⟨_, rfl, tq_is _ _ _ _ rfl, Kept.refl _ _, fun _ _ _ _ _ => trivial⟩
                | 29, ho, hsk =>
                  obtain rfl := Option.some.inj ho
                  have e0 : a'.eval (.tmp 192) = .bool P5.owes := is_tq (hin 24 192 (by kernel_rfl) (by kernel_rfl)) rfl
                  have e1 : a'.eval (.tmp 196) = .bool P5.owes := is_tq (hin 28 196 (by kernel_rfl) (by kernel_rfl)) rfl
                  exact o_neq4 (.tmp 192) (.tmp 196) rfl P5.owes e0 e1 ⟨_, rfl, tq_is _ _ _ _ rfl, Kept.refl _ _, fun _ _ _ _ _ => trivial⟩
                | 30, ho, hsk =>
                  obtain rfl := Option.some.inj ho
                  have e0 : a'.eval (.tmp 190) = .bool false := is_tq (hin 22 190 (by kernel_rfl) (by kernel_rfl)) rfl
                  have e1 : a'.eval (.tmp 197) = .bool false := is_tq (hin 29 197 (by kernel_rfl) (by kernel_rfl)) rfl
                  exact o_pickOr0 (.tmp 190) (.tmp 197) rfl _ e0 e1 ⟨_, rfl, tq_is _ _ _ _ rfl, Kept.refl _ _, fun _ _ _ _ _ => trivial⟩
              intro X9 hk9
              replace hk9 : Kept [] V8 X9 := ⟨hk9.os, hk9.tape, hk9.output, hk9.size, hk9.block⟩
              simp only [valsQ, List.map_cons, List.map_nil, Option.getD_some, List.take_succ_cons, List.take_zero, putAll, Act.put, List.setIfInBounds_toArray, List.set_cons_succ, List.set_cons_zero]
              refine wpAny_done (by kernel_rfl) ?_ _
              replace DU := hide ((unhide DU).step hk9)
              clear hk9 HRH
              go_wp2_with fail
              go_roundw
              case rel => exact ⟨k + 1, v5, ws5, rv5, rs5, P5, by omega, by omega, by go_num, DU, HPN⟩
              case measure => simp [intOf]; omega
            · by_cases hk3 : x.kind = 3
              · skip
                rw [hk3] at hp0
                go_wp2_with (
                  first
                  | (go_at_call 18
                     refine (again18 b v ws P _ (unhide DU).sm.sx).mono ?_
                     rintro e V5 ⟨dv, L, rfl, hD, hL, hR⟩
                     have TD := hide (Td.of (unhide DU) hD hL hR)
                     have HOK := hide (unhide DU).rx.ok
                     clear hD hL hR hp0 DU)
                  | (go_at_call 19
                     refine (ragain19 r rv rs P _ (unhide TD).du.rx).mono ?_
                     rintro e V6 ⟨dv2, L2, rfl, hD, hL, hR⟩
                     replace TD := hide ((unhide TD).mutR hR)
                     have HD2 := hide hD
                     have HL2 := hide hL
                     clear hD hL hR)
                  | (go_at_call 15
                     refine (same15 _ _ _ _ L L2 _ (unhide TD).dl (unhide HD2) (by rw [(unhide TD).map, unhide HL2]) (td_len (unhide HPL) (unhide TD).map)).mono ?_
                     rintro e V7 ⟨rfl, hk⟩
                     replace TD := hide ((unhide TD).step hk)
                     clear hk HD2 HL2)
                  | (go_at_call 17
                     refine (over17 _ _ L _ (unhide TD).dl (td_len (unhide HPL) (unhide TD).map) (td_small (unhide HOK) (unhide TD).map)).mono ?_
                     rintro e V8 ⟨rfl, hk⟩
                     have DU := hide ((unhide TD).over hk)
                     replace HPN : Hid (P.toldP.sent.length ≤ k + 1) := by have h2 := unhide HPN; exact (by show P.sent.length ≤ k + 1; omega : P.toldP.sent.length ≤ k + 1)
                     clear hk TD
                     refine Stp.go ?_))
                constructor
                obtain ⟨P5, hP5⟩ : ∃ P5, P5 = P.toldP := ⟨_, rfl⟩
                rw [← hP5] at DU HPN
                obtain ⟨v5, hv5⟩ : ∃ z, z = v := ⟨_, rfl⟩
                obtain ⟨ws5, hw5⟩ : ∃ z, z = ws := ⟨_, rfl⟩
                obtain ⟨rv5, hr5⟩ : ∃ z, z = rv := ⟨_, rfl⟩
                obtain ⟨rs5, hs5⟩ : ∃ z, z = rs := ⟨_, rfl⟩
                rw [← hv5, ← hw5, ← hr5, ← hs5] at DU
                clear hP5 hv5 hw5 hr5 hs5
                obtain ⟨ro5, rc5, hrv5, _, _⟩ := (unhide DU).rx.sl
                have HRV := hide hrv5
                have HRH := hide (unhide DU).rx.head
                have HLE : Hid ((rs5.length : Int) - (P5.known : Int) = ws5.length ∧ rs5.length ≤ 1000 ∧ P5.known ≤ rs5.length) := by have h1 := (unhide DU).sm.sx.len; have h2 := (unhide DU).rx.len; have h3 := (unhide DU).rx.ok.many; exact ⟨by omega, by omega, by omega⟩
                clear hrv5
                go_wp2_with fail
                refine wp_region_any mixed (wpAny_tq 31 rfl (by kernel_rfl) [some (P0 b), some (.int .i64 ws5.length), some (P0 r), some (P0 r), some (.pointer (some ⟨r, 3, none⟩)), some (rv5), some (.int .i64 rs5.length), some (P0 r), some (P0 r), some (.pointer (some ⟨r, 4, none⟩)), some (.int .i64 P5.known), some (.int .i64 ws5.length), some (.bool false), some (.bool false), some (P0 b), some (.int .i64 P5.got), some (P0 r), some (P0 r), some (.pointer (some ⟨r, 6, none⟩)), some (.int .i64 P5.got), some (.bool false), some (.bool false), some (.bool false), some (P0 b), some (.bool P5.owes), some (P0 r), some (P0 r), some (.pointer (some ⟨r, 7, none⟩)), some (.bool P5.owes), some (.bool false), some (.bool false)] rfl (by kernel_rfl) (by kernel_rfl) ?_ ?_)
                · intro i o' hi hsk ho a' w2 hout hin hk2
                  replace hk2 : Kept [] V8 w2 := ⟨hk2.os, hk2.tape, hk2.output, hk2.size, hk2.block⟩
                  match i, ho, hsk with
                  | 0, ho, hsk =>
                    obtain rfl := Option.some.inj ho
                    exact wp_move (.tmp 9) rfl _ ((hout 9 (by kernel_rfl)).trans rfl) ⟨_, rfl, tq_is _ _ _ _ rfl, Kept.refl _ _, fun _ _ _ _ _ => trivial⟩
                  | 1, ho, hsk =>
                    obtain rfl := Option.some.inj ho
                    have e0 : a'.eval (.tmp 168) = P0 b := is_tq (hin 0 168 (by kernel_rfl) (by kernel_rfl)) rfl
                    refine wp_callF 22 _ _ rfl #[P0 b] (by simp [e0]) (cf22 _ _) ((waits22 b v5 ws5 P5 _ ((unhide DU).sm.sx.kept0 hk2)).mono ?_)
                    rintro e w3 ⟨rfl, q3, rfl⟩
                    exact ⟨_, rfl, _, rfl, tq_is _ _ _ _ rfl, kept_drewN _ _ _, fun _ _ _ _ _ => trivial⟩
                  | 2, ho, hsk =>
                    obtain rfl := Option.some.inj ho
                    exact wp_move (.tmp 11) rfl _ ((hout 11 (by kernel_rfl)).trans rfl) ⟨_, rfl, tq_is _ _ _ _ rfl, Kept.refl _ _, fun _ _ _ _ _ => trivial⟩
                  | 3, ho, hsk =>
                    obtain rfl := Option.some.inj ho
                    have e0 : a'.eval (.tmp 170) = P0 r := is_tq (hin 2 170 (by kernel_rfl) (by kernel_rfl)) rfl
                    exact o_nil (.tmp 170) rfl _ e0 ⟨_, rfl, tq_is _ _ _ _ rfl, Kept.refl _ _, fun _ _ _ _ _ => trivial⟩
                  | 4, ho, hsk =>
                    obtain rfl := Option.some.inj ho
                    have e0 : a'.eval (.tmp 171) = P0 r := is_tq (hin 3 171 (by kernel_rfl) (by kernel_rfl)) rfl
                    exact o_fld32_3 (.tmp 171) rfl r e0 ⟨_, rfl, tq_is _ _ _ _ rfl, Kept.refl _ _, fun _ _ _ _ _ => trivial⟩
                  | 5, ho, hsk =>
                    obtain rfl := Option.some.inj ho
                    have e0 : a'.eval (.tmp 172) = .pointer (some ⟨r, 3, none⟩) := is_tq (hin 4 172 (by kernel_rfl) (by kernel_rfl)) rfl
                    exact o_load30 (.tmp 172) rfl _ _ e0 (fits_cell ((unhide HRH).kept hk2 (by simp)) 3 _ rfl) ⟨_, rfl, tq_is _ _ _ _ rfl, Kept.refl _ _, fun _ _ _ _ _ => trivial⟩
                  | 6, ho, hsk =>
                    obtain rfl := Option.some.inj ho
                    have e0 : a'.eval (.tmp 173) = rv5 := is_tq (hin 5 173 (by kernel_rfl) (by kernel_rfl)) rfl
                    exact o_len30 (.tmp 173) rfl ro5 rs5.length rc5 (by rw [e0]; exact unhide HRV) ⟨_, rfl, tq_is _ _ _ _ rfl, Kept.refl _ _, fun _ _ _ _ _ => trivial⟩
                  | 7, ho, hsk =>
                    obtain rfl := Option.some.inj ho
                    exact wp_move (.tmp 11) rfl _ ((hout 11 (by kernel_rfl)).trans rfl) ⟨_, rfl, tq_is _ _ _ _ rfl, Kept.refl _ _, fun _ _ _ _ _ => trivial⟩
                  | 8, ho, hsk =>
                    obtain rfl := Option.some.inj ho
                    have e0 : a'.eval (.tmp 175) = P0 r := is_tq (hin 7 175 (by kernel_rfl) (by kernel_rfl)) rfl
                    exact o_nil (.tmp 175) rfl _ e0 ⟨_, rfl, tq_is _ _ _ _ rfl, Kept.refl _ _, fun _ _ _ _ _ => trivial⟩
                  | 9, ho, hsk =>
                    obtain rfl := Option.some.inj ho
                    have e0 : a'.eval (.tmp 176) = P0 r := is_tq (hin 8 176 (by kernel_rfl) (by kernel_rfl)) rfl
                    exact o_fld32_4 (.tmp 176) rfl r e0 ⟨_, rfl, tq_is _ _ _ _ rfl, Kept.refl _ _, fun _ _ _ _ _ => trivial⟩
                  | 10, ho, hsk =>
                    obtain rfl := Option.some.inj ho
                    have e0 : a'.eval (.tmp 177) = .pointer (some ⟨r, 4, none⟩) := is_tq (hin 9 177 (by kernel_rfl) (by kernel_rfl)) rfl
                    exact o_load3 (.tmp 177) rfl _ _ e0 (fits_cell ((unhide HRH).kept hk2 (by simp)) 4 _ rfl) ⟨_, rfl, tq_is _ _ _ _ rfl, Kept.refl _ _, fun _ _ _ _ _ => trivial⟩
                  | 11, ho, hsk =>
                    obtain rfl := Option.some.inj ho
                    have e0 : a'.eval (.tmp 174) = .int .i64 rs5.length := is_tq (hin 6 174 (by kernel_rfl) (by kernel_rfl)) rfl
                    have e1 : a'.eval (.tmp 178) = .int .i64 P5.known := is_tq (hin 10 178 (by kernel_rfl) (by kernel_rfl)) rfl
                    refine o_sub3 (.tmp 174) (.tmp 178) rfl _ _ (by have := unhide HLE; omega) e0 e1 ?_
                    rw [(unhide HLE).1]
                    exact ⟨_, rfl, tq_is _ _ _ _ rfl, Kept.refl _ _, fun _ _ _ _ _ => trivial⟩
                  | 12, ho, hsk =>
                    obtain rfl := Option.some.inj ho
                    have e0 : a'.eval (.tmp 169) = .int .i64 ws5.length := is_tq (hin 1 169 (by kernel_rfl) (by kernel_rfl)) rfl
                    have e1 : a'.eval (.tmp 179) = .int .i64 ws5.length := is_tq (hin 11 179 (by kernel_rfl) (by kernel_rfl)) rfl
                    exact o_neqT3 (.tmp 169) (.tmp 179) rfl _ _ true (by simp) e0 e1 ⟨_, rfl, tq_is _ _ _ _ rfl, Kept.refl _ _, fun _ _ _ _ _ => trivial⟩
                  | 13, ho, hsk =>
                    obtain rfl := Option.some.inj ho
                    have e0 : a'.eval (.tmp 180) = .bool false := is_tq (hin 12 180 (by kernel_rfl) (by kernel_rfl)) rfl
                    exact wp_move (.tmp 180) rfl _ e0 ⟨_, rfl, tq_is _ _ _ _ rfl, Kept.refl _ _, fun _ _ _ _ _ => trivial⟩
                  | 14, ho, hsk =>
                    obtain rfl := Option.some.inj ho
                    exact wp_move (.tmp 9) rfl _ ((hout 9 (by kernel_rfl)).trans rfl) ⟨_, rfl, tq_is _ _ _ _ rfl, Kept.refl _ _, fun _ _ _ _ _ => trivial⟩
                  | 15, ho, hsk =>
                    obtain rfl := Option.some.inj ho
                    have e0 : a'.eval (.tmp 182) = P0 b := is_tq (hin 14 182 (by kernel_rfl) (by kernel_rfl)) rfl
                    refine wp_callF 23 _ _ rfl #[P0 b] (by simp [e0]) (cf23 _ _) ((got23 b v5 ws5 P5 _ ((unhide DU).sm.sx.kept0 hk2)).mono ?_)
                    rintro e w3 ⟨rfl, q3, rfl⟩
                    exact ⟨_, rfl, _, rfl, tq_is _ _ _ _ rfl, kept_drewN _ _ _, fun _ _ _ _ _ => trivial⟩
                  | 16, ho, hsk =>
                    obtain rfl := Option.some.inj ho
                    exact wp_move (.tmp 11) rfl _ ((hout 11 (by kernel_rfl)).trans rfl) ⟨_, rfl, tq_is _ _ _ _ rfl, Kept.refl _ _, fun _ _ _ _ _ => trivial⟩
                  | 17, ho, hsk =>
                    obtain rfl := Option.some.inj ho
                    have e0 : a'.eval (.tmp 184) = P0 r := is_tq (hin 16 184 (by kernel_rfl) (by kernel_rfl)) rfl
                    exact o_nil (.tmp 184) rfl _ e0 ⟨_, rfl, tq_is _ _ _ _ rfl, Kept.refl _ _, fun _ _ _ _ _ => trivial⟩
                  | 18, ho, hsk =>
                    obtain rfl := Option.some.inj ho
                    have e0 : a'.eval (.tmp 185) = P0 r := is_tq (hin 17 185 (by kernel_rfl) (by kernel_rfl)) rfl
                    exact o_fld32_6 (.tmp 185) rfl r e0 ⟨_, rfl, tq_is _ _ _ _ rfl, Kept.refl _ _, fun _ _ _ _ _ => trivial⟩
                  | 19, ho, hsk =>
                    obtain rfl := Option.some.inj ho
                    have e0 : a'.eval (.tmp 186) = .pointer (some ⟨r, 6, none⟩) := is_tq (hin 18 186 (by kernel_rfl) (by kernel_rfl)) rfl
                    exact o_load2 (.tmp 186) rfl _ _ e0 (fits_cell ((unhide HRH).kept hk2 (by simp)) 6 _ rfl) ⟨_, rfl, tq_is _ _ _ _ rfl, Kept.refl _ _, fun _ _ _ _ _ => trivial⟩
                  | 20, ho, hsk =>
                    obtain rfl := Option.some.inj ho
                    have e0 : a'.eval (.tmp 183) = .int .i64 P5.got := is_tq (hin 15 183 (by kernel_rfl) (by kernel_rfl)) rfl
                    have e1 : a'.eval (.tmp 187) = .int .i64 P5.got := is_tq (hin 19 187 (by kernel_rfl) (by kernel_rfl)) rfl
                    exact o_neqT2 (.tmp 183) (.tmp 187) rfl _ _ true (by simp) e0 e1 ⟨_, rfl, tq_is _ _ _ _ rfl, Kept.refl _ _, fun _ _ _ _ _ => trivial⟩
                  | 21, ho, hsk =>
                    obtain rfl := Option.some.inj ho
                    have e0 : a'.eval (.tmp 181) = .bool false := is_tq (hin 13 181 (by kernel_rfl) (by kernel_rfl)) rfl
                    have e1 : a'.eval (.tmp 188) = .bool false := is_tq (hin 20 188 (by kernel_rfl) (by kernel_rfl)) rfl
                    exact o_pickOr0 (.tmp 181) (.tmp 188) rfl _ e0 e1 ⟨_, rfl, tq_is _ _ _ _ rfl, Kept.refl _ _, fun _ _ _ _ _ => trivial⟩
                  | 22, ho, hsk =>
                    obtain rfl := Option.some.inj ho
                    have e0 : a'.eval (.tmp 189) = .bool false := is_tq (hin 21 189 (by kernel_rfl) (by kernel_rfl)) rfl
                    exact wp_move (.tmp 189) rfl _ e0 ⟨_, rfl, tq_is _ _ _ _ rfl, Kept.refl _ _, fun _ _ _ _ _ => trivial⟩
                  | 23, ho, hsk =>
                    obtain rfl := Option.some.inj ho
                    exact wp_move (.tmp 9) rfl _ ((hout 9 (by kernel_rfl)).trans rfl) ⟨_, rfl, tq_is _ _ _ _ rfl, Kept.refl _ _, fun _ _ _ _ _ => trivial⟩
                  | 24, ho, hsk =>
                    obtain rfl := Option.some.inj ho
                    have e0 : a'.eval (.tmp 191) = P0 b := is_tq (hin 23 191 (by kernel_rfl) (by kernel_rfl)) rfl
                    refine wp_callF 24 _ _ rfl #[P0 b] (by simp [e0]) (cf24 _ _) ((owes24 b v5 ws5 P5 _ ((unhide DU).sm.sx.kept0 hk2)).mono ?_)
                    rintro e w3 ⟨rfl, q3, rfl⟩
                    exact ⟨_, rfl, _, rfl, tq_is _ _ _ _ rfl, kept_drewN _ _ _, fun _ _ _ _ _ => trivial⟩
                  | 25, ho, hsk =>
                    obtain rfl := Option.some.inj ho
                    exact wp_move (.tmp 11) rfl _ ((hout 11 (by kernel_rfl)).trans rfl) ⟨_, rfl, tq_is _ _ _ _ rfl, Kept.refl _ _, fun _ _ _ _ _ => trivial⟩
                  | 26, ho, hsk =>
                    obtain rfl := Option.some.inj ho
                    have e0 : a'.eval (.tmp 193) = P0 r := is_tq (hin 25 193 (by kernel_rfl) (by kernel_rfl)) rfl
                    exact o_nil (.tmp 193) rfl _ e0 ⟨_, rfl, tq_is _ _ _ _ rfl, Kept.refl _ _, fun _ _ _ _ _ => trivial⟩
                  | 27, ho, hsk =>
                    obtain rfl := Option.some.inj ho
                    have e0 : a'.eval (.tmp 194) = P0 r := is_tq (hin 26 194 (by kernel_rfl) (by kernel_rfl)) rfl
                    exact o_fld32_7 (.tmp 194) rfl r e0 ⟨_, rfl, tq_is _ _ _ _ rfl, Kept.refl _ _, fun _ _ _ _ _ => trivial⟩
                  | 28, ho, hsk =>
                    obtain rfl := Option.some.inj ho
                    have e0 : a'.eval (.tmp 195) = .pointer (some ⟨r, 7, none⟩) := is_tq (hin 27 195 (by kernel_rfl) (by kernel_rfl)) rfl
                    exact o_load4 (.tmp 195) rfl _ _ e0 (fits_cell ((unhide HRH).kept hk2 (by simp)) 7 _ rfl) ⟨_, rfl, tq_is _ _ _ _ rfl, Kept.refl _ _, fun _ _ _ _ _ => trivial⟩
                  | 29, ho, hsk =>
                    obtain rfl := Option.some.inj ho
                    have e0 : a'.eval (.tmp 192) = .bool P5.owes := is_tq (hin 24 192 (by kernel_rfl) (by kernel_rfl)) rfl
                    have e1 : a'.eval (.tmp 196) = .bool P5.owes := is_tq (hin 28 196 (by kernel_rfl) (by kernel_rfl)) rfl
                    exact o_neq4 (.tmp 192) (.tmp 196) rfl P5.owes e0 e1 ⟨_, rfl, tq_is _ _ _ _ rfl, Kept.refl _ _, fun _ _ _ _ _ => trivial⟩
                  | 30, ho, hsk =>
                    obtain rfl := Option.some.inj ho
                    have e0 : a'.eval (.tmp 190) = .bool false := is_tq (hin 22 190 (by kernel_rfl) (by kernel_rfl)) rfl
                    have e1 : a'.eval (.tmp 197) = .bool false := is_tq (hin 29 197 (by kernel_rfl) (by kernel_rfl)) rfl
                    exact o_pickOr0 (.tmp 190) (.tmp 197) rfl _ e0 e1 ⟨_, rfl, tq_is _ _ _ _ rfl, Kept.refl _ _, fun _ _ _ _ _ => trivial⟩
                intro X9 hk9
                replace hk9 : Kept [] V8 X9 := ⟨hk9.os, hk9.tape, hk9.output, hk9.size, hk9.block⟩
                simp only [valsQ, List.map_cons, List.map_nil, Option.getD_some, List.take_succ_cons, List.take_zero, putAll, Act.put, List.setIfInBounds_toArray, List.set_cons_succ, List.set_cons_zero]
                refine wpAny_done (by kernel_rfl) ?_ _
                replace DU := hide ((unhide DU).step hk9)
                clear hk9 HRH
                go_wp2_with fail
                go_roundw
                case rel => exact ⟨k + 1, v5, ws5, rv5, rs5, P5, by omega, by omega, by go_num, DU, HPN⟩
                case measure => simp [intOf]; omega
              · by_cases hk4 : x.kind = 4
                · skip
                  rw [hk4] at hp0
                  have hpd : V4.rangeAt p 2 (x.d.C x.e.v) := (unhide HP).rangeIn (o := 2) (x.d.C x.e.v) (fun j hj => by have e : x.C = [.int .i64 x.kind, x.y.v] ++ x.d.C x.e.v := rfl; rw [e, List.getElem?_append_right (by simp)]; simp)
                  have HPD := hide hpd
                  have HDE := hide (unhide HXO).d
                  clear hpd
                  go_wp2_with (
                    first
                    | (refine wpLoadA row35 (by rfl) (.tmp 120) (by rfl) p 2 (by kernel_rfl) (x.d.C x.e.v) rfl (unhide HPD) ?_
                       refine Stp.go ?_))
                  constructor
                  go_wp2_with (
                    first
                    | (refine wpNew row35 zD rfl alloc35 18 (by rfl) (by rfl) (by rfl) (.tmp 121) (by rfl) (by rfl) (by rfl) (x.d.C x.e.v) rfl (DgC_one rfl) (by kernel_rfl) (by kernel_rfl) ?_
                       intro V5 q e5 B5 K5
                       have HQ := hide B5
                       have HQLT : Hid (q < V5.heap.size) := B5.lt
                       have HQ0 : Hid (∃ cs pp, V5.heap[q]? = some (Obj.cells cs 35 pp)) := ⟨_, _, B5⟩
                       have HQG : Hid (w.heap.size ≤ q) := by have h1 := (unhide DU).k.size; exact (by omega : w.heap.size ≤ q)
                       have HPQ : Hid (p ≠ q) := by have h1 := (unhide HP).lt; exact (by omega : p ≠ q)
                       replace DU := hide ((unhide DU).step K5)
                       replace HP := hide ((unhide HP).kept K5 (by simp))
                       clear e5 B5 K5 hp0 HPD
                       have hq5 := fits_cell (unhide HQ) 5 _ rfl
                       unfold By.v at hq5
                       refine Stp.go ?_))
                  constructor
                  go_wp2_with (
                    first
                    | (at_builtin; refine wpAppB (by rfl) (.tmp 123) (by rfl) x.e.ao x.e.m x.e.c x.d.bs (by kernel_rfl) (unhide HXO).e.nil (by rw [unhide HDE]; exact ((unhide HXO).e.kept (unhide DU).k (by simp)).vals) (by rw [unhide HDE]; exact (unhide HXO).e.byte) (by have h1 := (unhide HXO).e.big; omega) ?_
                       intro u0 V6 hB6 hf6 hk6
                       obtain ⟨uo, uc, hu, _, _⟩ := hB6.sl
                       have HU := hide hu
                       have HB6 := hide hB6
                       replace DU := hide ((unhide DU).step hk6)
                       replace HP := hide ((unhide HP).kept hk6 (by simp))
                       replace HQ := hide ((unhide HQ).kept hk6 (by simp))
                       replace HQ0 : Hid (∃ cs pp, V6.heap[q]? = some (Obj.cells cs 35 pp)) := ⟨_, _, unhide HQ⟩
                       have HUQ : Hid (∀ k, u0.ownBlock = some k → k ∉ [q]) := fun k e hm => by have h1 := hf6 k e; have h2 := (unhide HQ).lt; have h3 := unhide HQLT; simp at hm; omega
                       clear hB6 hf6 hk6 hq5 hu
                       refine Stp.go ?_))
                  constructor
                  go_wp2_with (
                    first
                    | (refine wpStoreV (T := 33) (b := q) (i := 5) (v := u0) (by rfl) (.tmp 125) (.tmp 124) (by rfl) (by rfl) (by kernel_rfl) (by rfl) 35 _ (unhide HQ) (by rw [unhide HU]; exact st33 _ _ _ _ _ _ _ _ (unhide HQ) (by simp [Dg.C])) ?_
                       intro V7 B7 K7
                       replace HQ : Hid (Blk V7 q 35 (x.d.C u0)) := B7
                       replace HB6 := hide ((unhide HB6).kept K7 (unhide HUQ))
                       replace HP := hide ((unhide HP).kept K7 (by have := unhide HPQ; simpa using this))
                       replace DU : Hid (Du w V7 b v ws P r rv rs P) := (unhide DU).other35 K7 (unhide HQ0) (unhide HQG)
                       clear B7 K7
                       refine Stp.go ?_))
                  constructor
                  go_wp2_with (
                    first
                    | (refine wpLoadA row35 (by rfl) (.tmp 18) (by rfl) q 0 (by kernel_rfl) (x.d.C u0) rfl (unhide HQ).range ?_
                       refine Stp.go ?_))
                  constructor
                  go_wp2_with (
                    first
                    | (go_at_call 20
                       refine (come20bs b v ws P x.d u0 _ (unhide DU).sm.sx (unhide HB6)).mono ?_
                       rintro e V8 ⟨v8, ws8, r1, rfl, hR, hBr, hfr, hsub⟩
                       have HR1 := hide hBr
                       obtain ⟨r1o, r1c, hr1, _, _⟩ := hBr.sl
                       have HR1S := hide hr1
                       have HFR : Hid (∀ k, r1.ownBlock = some k → V7.heap.size ≤ k) := hfr
                       have HNC1 : Hid (Nc r1 ws8) := fun u hu k e e0 => by have h1 := hfr k e0; have h2 := (unhide DU).sm.sx.lt.2.2 u (hsub u hu) k e; omega
                       have HNC2 : Hid (Nc r1 rs) := Nc.new hfr (unhide DU).rx.lt.2.2
                       have HGE : Hid (∀ g, r1.ownBlock = some g → w.heap.size ≤ g) := fun g e => by have h1 := hfr g e; have h2 := (unhide DU).k.size; omega
                       replace HB6 := hide (hR.bod (unhide DU).sm.sx (unhide HB6))
                       replace HP := hide (hR.blk (unhide DU).sm.sx (unhide HP) (by decide) (by decide))
                       replace HQ := hide (hR.blk (unhide DU).sm.sx (unhide HQ) (by decide) (by decide))
                       replace DU := hide ((unhide DU).mutS hR)
                       have HPD : Hid (V8.rangeAt p 2 (x.d.C x.e.v)) := (unhide HP).rangeIn (o := 2) (x.d.C x.e.v) (fun j hj => by have e : x.C = [.int .i64 x.kind, x.y.v] ++ x.d.C x.e.v := rfl; rw [e, List.getElem?_append_right (by simp)]; simp)
                       clear hR hBr hfr hsub hr1
                       refine Stp.go ?_))
                  constructor
                  go_wp2_with (
                    first
                    | (refine wpLoadA row35 (by rfl) (.tmp 134) (by rfl) p 2 (by kernel_rfl) (x.d.C x.e.v) rfl (unhide HPD) ?_
                       refine Stp.go ?_))
                  constructor
                  go_wp2_with (
                    first
                    | (go_at_call 21
                       refine (rcome_arg w _ r rv rs P x.d x.e (unhide DU).rx (unhide DU).rge ((unhide HXO).e.kept (unhide DU).k (by simp)) (unhide HDE)).mono ?_
                       rintro e V9 ⟨r2, rfl, hR, hBr, _⟩
                       have HR2 := hide hBr
                       obtain ⟨r2o, r2c, hr2, _, _⟩ := hBr.sl
                       replace HR1 := hide (hR.bod (unhide DU).rx (unhide HR1))
                       replace HB6 := hide (hR.bod (unhide DU).rx (unhide HB6))
                       replace HP := hide ((unhide HP).kept hR.kept ((unhide DU).rx.notin (unhide HP) (by decide) (by decide)))
                       replace HQ := hide ((unhide HQ).kept hR.kept ((unhide DU).rx.notin (unhide HQ) (by decide) (by decide)))
                       replace DU := hide ((unhide DU).mutR hR)
                       have hc1 := conv33 (unhide HR1).row
                       have hc2 := conv33 hBr.row
                       have hc3 := conv33 (unhide HB6).row
                       have hc4 := conv33 (vals_rowAt (by have h9 := ((unhide HXO).e.kept (unhide DU).k (by simp)).vals; rw [← unhide HDE] at h9; exact h9 : Vals V9 x.e.ao x.e.m x.e.c (u8s x.d.bs)))
                       have hq5 := fits_cell (unhide HQ) 5 _ rfl
                       have hp7 := fits_cell (unhide HP) 7 _ rfl
                       unfold By.v at hp7
                       obtain ⟨so, hso⟩ : ∃ so, so = (P.come x.d).2.isSome := ⟨_, rfl⟩
                       rw [← hso]
                       clear hR hBr hr2 HPD hso
                       refine Stp.go ?_))
                  constructor
                  replace HPN : Hid ((P.come x.d).1.sent.length ≤ k + 1) := by have h2 := unhide HPN; exact (by rw [come_sent]; omega : (P.come x.d).1.sent.length ≤ k + 1)
                  obtain ⟨P1, hP1⟩ : ∃ P1, P1 = (P.come x.d).1 := ⟨_, rfl⟩
                  rw [← hP1] at DU HPN
                  have hr1S := unhide HR1S
                  obtain ⟨M, hM⟩ : ∃ M, M = ((P.come x.d).2.getD []).length := ⟨_, rfl⟩
                  rw [← hM] at hr1S
                  subst hr1S
                  have hmb : M ≤ 1000 := by rw [hM]; exact come_small (unhide HPK0) x.d
                  have HSH := hide (unhide HR1).shp
                  clear hP1 hM HR1S
                  go_wp2_with fail
                  clear hc1 hc2 hc3 hc4 hq5 hp7
                  go_loopw [23] (fun i wr2 => ∃ j : Nat, j ≤ M ∧ i = .int .i64 j ∧ Hid (Shp wr2 (.slice r1o M r1c)) ∧ Hid (Du w wr2 b v8 ws8 P1 r rv rs P1)) (fun i _ => M - (intOf i).toNat)
                  case atStart => exact ⟨0, by omega, rfl, HSH, DU⟩
                  case round =>
                    clear HSH DU
                    obtain ⟨j, hj, rfl, HSH, DU⟩ := hrel
                    by_cases hjt : j < M
                    · have hjI : (j : Int) < (M : Int) := by omega
                      rcases unhide HSH with ⟨c9, h9⟩ | ⟨g, m9, c9, us, h9, hB9, hlen9⟩
                      · exfalso; cases h9; omega
                      · injection h9 with h91 h92 h93
                        subst h91 h92
                        clear h93
                        have HB9 := hide hB9
                        have HLEN := hide hlen9
                        clear hB9 hlen9
                        go_wp2_with (
                          first
                          | (refine wpStoreV (T := 5) (b := g) (i := j) (v := .int .u8 99) (by rfl) (.tmp 167) (.const (.int .u8 99)) (by rfl) (by rfl) (by kernel_rfl) (by rfl) 5 us (unhide HB9) (st5 _ _ _ _ _ _ (unhide HB9) (by have h1 := unhide HLEN; omega)) ?_
                             intro V7 B7 K7
                             have HSH7 : Hid (Shp V7 (.slice (some ⟨g, 0, none⟩) M r1c)) := (unhide HSH).set (unhide HB9) B7 K7
                             replace DU := hide ((unhide DU).spoil1 (m := M) (c := r1c) rfl (unhide HB9) B7 K7 (unhide HNC1) (unhide HNC2) (unhide HGE g rfl))
                             clear B7 K7))
                        go_roundw
                        case rel => exact ⟨j + 1, by omega, by go_num, HSH7, DU⟩
                        case measure => simp [intOf]; omega
                    · have hjI : ¬ (j : Int) < (M : Int) := by omega
                      obtain ⟨P5, hP5⟩ : ∃ P5, P5 = P1 := ⟨_, rfl⟩
                      rw [← hP5] at DU HPN
                      obtain ⟨v5, hv5⟩ : ∃ z, z = v8 := ⟨_, rfl⟩
                      obtain ⟨ws5, hw5⟩ : ∃ z, z = ws8 := ⟨_, rfl⟩
                      obtain ⟨rv5, hr5⟩ : ∃ z, z = rv := ⟨_, rfl⟩
                      obtain ⟨rs5, hs5⟩ : ∃ z, z = rs := ⟨_, rfl⟩
                      rw [← hv5, ← hw5, ← hr5, ← hs5] at DU
                      clear hP5 hv5 hw5 hr5 hs5
                      obtain ⟨ro5, rc5, hrv5, _, _⟩ := (unhide DU).rx.sl
                      have HRV := hide hrv5
                      have HRH := hide (unhide DU).rx.head
                      have HLE : Hid ((rs5.length : Int) - (P5.known : Int) = ws5.length ∧ rs5.length ≤ 1000 ∧ P5.known ≤ rs5.length) := by have h1 := (unhide DU).sm.sx.len; have h2 := (unhide DU).rx.len; have h3 := (unhide DU).rx.ok.many; exact ⟨by omega, by omega, by omega⟩
                      clear hrv5
                      go_wp2_with fail
                      refine wp_region_any mixed (wpAny_tq 31 rfl (by kernel_rfl) [some (P0 b), some (.int .i64 ws5.length), some (P0 r), some (P0 r), some (.pointer (some ⟨r, 3, none⟩)), some (rv5), some (.int .i64 rs5.length), some (P0 r), some (P0 r), some (.pointer (some ⟨r, 4, none⟩)), some (.int .i64 P5.known), some (.int .i64 ws5.length), some (.bool false), some (.bool false), some (P0 b), some (.int .i64 P5.got), some (P0 r), some (P0 r), some (.pointer (some ⟨r, 6, none⟩)), some (.int .i64 P5.got), some (.bool false), some (.bool false), some (.bool false), some (P0 b), some (.bool P5.owes), some (P0 r), some (P0 r), some (.pointer (some ⟨r, 7, none⟩)), some (.bool P5.owes), some (.bool false), some (.bool false)] rfl (by kernel_rfl) (by kernel_rfl) ?_ ?_)
                      · intro i o' hi hsk ho a' w2 hout hin hk2
                        replace hk2 : Kept [] wr w2 := ⟨hk2.os, hk2.tape, hk2.output, hk2.size, hk2.block⟩
                        match i, ho, hsk with
                        | 0, ho, hsk =>
                          obtain rfl := Option.some.inj ho
                          exact wp_move (.tmp 9) rfl _ ((hout 9 (by kernel_rfl)).trans rfl) ⟨_, rfl, tq_is _ _ _ _ rfl, Kept.refl _ _, fun _ _ _ _ _ => trivial⟩
                        | 1, ho, hsk =>
                          obtain rfl := Option.some.inj ho
                          have e0 : a'.eval (.tmp 168) = P0 b := is_tq (hin 0 168 (by kernel_rfl) (by kernel_rfl)) rfl
                          refine wp_callF 22 _ _ rfl #[P0 b] (by simp [e0]) (cf22 _ _) ((waits22 b v5 ws5 P5 _ ((unhide DU).sm.sx.kept0 hk2)).mono ?_)
                          rintro e w3 ⟨rfl, q3, rfl⟩
                          exact ⟨_, rfl, _, rfl, tq_is _ _ _ _ rfl, kept_drewN _ _ _, fun _ _ _ _ _ => trivial⟩
                        | 2, ho, hsk =>
                          obtain rfl := Option.some.inj ho
                          exact wp_move (.tmp 11) rfl _ ((hout 11 (by kernel_rfl)).trans rfl) ⟨_, rfl, tq_is _ _ _ _ rfl, Kept.refl _ _, fun _ _ _ _ _ => trivial⟩
                        | 3, ho, hsk =>
                          obtain rfl := Option.some.inj ho
                          have e0 : a'.eval (.tmp 170) = P0 r := is_tq (hin 2 170 (by kernel_rfl) (by kernel_rfl)) rfl
                          exact o_nil (.tmp 170) rfl _ e0 ⟨_, rfl, tq_is _ _ _ _ rfl, Kept.refl _ _, fun _ _ _ _ _ => trivial⟩
                        | 4, ho, hsk =>
                          obtain rfl := Option.some.inj ho
                          have e0 : a'.eval (.tmp 171) = P0 r := is_tq (hin 3 171 (by kernel_rfl) (by kernel_rfl)) rfl
                          exact o_fld32_3 (.tmp 171) rfl r e0 ⟨_, rfl, tq_is _ _ _ _ rfl, Kept.refl _ _, fun _ _ _ _ _ => trivial⟩
                        | 5, ho, hsk =>
                          obtain rfl := Option.some.inj ho
                          have e0 : a'.eval (.tmp 172) = .pointer (some ⟨r, 3, none⟩) := is_tq (hin 4 172 (by kernel_rfl) (by kernel_rfl)) rfl
                          exact o_load30 (.tmp 172) rfl _ _ e0 (fits_cell ((unhide HRH).kept hk2 (by simp)) 3 _ rfl) ⟨_, rfl, tq_is _ _ _ _ rfl, Kept.refl _ _, fun _ _ _ _ _ => trivial⟩
                        | 6, ho, hsk =>
                          obtain rfl := Option.some.inj ho
                          have e0 : a'.eval (.tmp 173) = rv5 := is_tq (hin 5 173 (by kernel_rfl) (by kernel_rfl)) rfl
                          exact o_len30 (.tmp 173) rfl ro5 rs5.length rc5 (by rw [e0]; exact unhide HRV) ⟨_, rfl, tq_is _ _ _ _ rfl, Kept.refl _ _, fun _ _ _ _ _ => trivial⟩
                        | 7, ho, hsk =>
                          obtain rfl := Option.some.inj ho
                          exact wp_move (.tmp 11) rfl _ ((hout 11 (by kernel_rfl)).trans rfl) ⟨_, rfl, tq_is _ _ _ _ rfl, Kept.refl _ _, fun _ _ _ _ _ => trivial⟩
                        | 8, ho, hsk =>
                          obtain rfl := Option.some.inj ho
                          have e0 : a'.eval (.tmp 175) = P0 r := is_tq (hin 7 175 (by kernel_rfl) (by kernel_rfl)) rfl
                          exact o_nil (.tmp 175) rfl _ e0 ⟨_, rfl, tq_is _ _ _ _ rfl, Kept.refl _ _, fun _ _ _ _ _ => trivial⟩
                        | 9, ho, hsk =>
                          obtain rfl := Option.some.inj ho
                          have e0 : a'.eval (.tmp 176) = P0 r := is_tq (hin 8 176 (by kernel_rfl) (by kernel_rfl)) rfl
                          exact o_fld32_4 (.tmp 176) rfl r e0 ⟨_, rfl, tq_is _ _ _ _ rfl, Kept.refl _ _, fun _ _ _ _ _ => trivial⟩
                        | 10, ho, hsk =>
                          obtain rfl := Option.some.inj ho
                          have e0 : a'.eval (.tmp 177) = .pointer (some ⟨r, 4, none⟩) := is_tq (hin 9 177 (by kernel_rfl) (by kernel_rfl)) rfl
                          exact o_load3 (.tmp 177) rfl _ _ e0 (fits_cell ((unhide HRH).kept hk2 (by simp)) 4 _ rfl) ⟨_, rfl, tq_is _ _ _ _ rfl, Kept.refl _ _, fun _ _ _ _ _ => trivial⟩
                        | 11, ho, hsk =>
                          obtain rfl := Option.some.inj ho
                          have e0 : a'.eval (.tmp 174) = .int .i64 rs5.length := is_tq (hin 6 174 (by kernel_rfl) (by kernel_rfl)) rfl
                          have e1 : a'.eval (.tmp 178) = .int .i64 P5.known := is_tq (hin 10 178 (by kernel_rfl) (by kernel_rfl)) rfl
                          refine o_sub3 (.tmp 174) (.tmp 178) rfl _ _ (by have := unhide HLE; omega) e0 e1 ?_
                          rw [(unhide HLE).1]
                          exact ⟨_, rfl, tq_is _ _ _ _ rfl, Kept.refl _ _, fun _ _ _ _ _ => trivial⟩
                        | 12, ho, hsk =>
                          obtain rfl := Option.some.inj ho
                          have e0 : a'.eval (.tmp 169) = .int .i64 ws5.length := is_tq (hin 1 169 (by kernel_rfl) (by kernel_rfl)) rfl
                          have e1 : a'.eval (.tmp 179) = .int .i64 ws5.length := is_tq (hin 11 179 (by kernel_rfl) (by kernel_rfl)) rfl
                          exact o_neqT3 (.tmp 169) (.tmp 179) rfl _ _ true (by simp) e0 e1 ⟨_, rfl, tq_is _ _ _ _ rfl, Kept.refl _ _, fun _ _ _ _ _ => trivial⟩
                        | 13, ho, hsk =>
                          obtain rfl := Option.some.inj ho
                          have e0 : a'.eval (.tmp 180) = .bool false := is_tq (hin 12 180 (by kernel_rfl) (by kernel_rfl)) rfl
                          exact wp_move (.tmp 180) rfl _ e0 ⟨_, rfl, tq_is _ _ _ _ rfl, Kept.refl _ _, fun _ _ _ _ _ => trivial⟩
                        | 14, ho, hsk =>
                          obtain rfl := Option.some.inj ho
                          exact wp_move (.tmp 9) rfl _ ((hout 9 (by kernel_rfl)).trans rfl) ⟨_, rfl, tq_is _ _ _ _ rfl, Kept.refl _ _, fun _ _ _ _ _ => trivial⟩
                        | 15, ho, hsk =>
                          obtain rfl := Option.some.inj ho
                          have e0 : a'.eval (.tmp 182) = P0 b := is_tq (hin 14 182 (by kernel_rfl) (by kernel_rfl)) rfl
                          refine wp_callF 23 _ _ rfl #[P0 b] (by simp [e0]) (cf23 _ _) ((got23 b v5 ws5 P5 _ ((unhide DU).sm.sx.kept0 hk2)).mono ?_)
                          rintro e w3 ⟨rfl, q3, rfl⟩
                          exact ⟨_, rfl, _, rfl, tq_is _ _ _ _ rfl, kept_drewN _ _ _, fun _ _ _ _ _ => trivial⟩
                        | 16, ho, hsk =>
                          obtain rfl := Option.some.inj ho
                          exact wp_move (.tmp 11) rfl _ ((hout 11 (by kernel_rfl)).trans rfl) ⟨_, rfl, tq_is _ _ _ _ rfl, Kept.refl _ _, fun _ _ _ _ _ => trivial⟩
                        | 17, ho, hsk =>
                          obtain rfl := Option.some.inj ho
                          have e0 : a'.eval (.tmp 184) = P0 r := is_tq (hin 16 184 (by kernel_rfl) (by kernel_rfl)) rfl
                          exact o_nil (.tmp 184) rfl _ e0 ⟨_, rfl, tq_is _ _ _ _ rfl, Kept.refl _ _, fun _ _ _ _ _ => trivial⟩
                        | 18, ho, hsk =>
                          obtain rfl := Option.some.inj ho
                          have e0 : a'.eval (.tmp 185) = P0 r := is_tq (hin 17 185 (by kernel_rfl) (by kernel_rfl)) rfl
                          exact o_fld32_6 (.tmp 185) rfl r e0 ⟨_, rfl, tq_is _ _ _ _ rfl, Kept.refl _ _, fun _ _ _ _ _ => trivial⟩
                        | 19, ho, hsk =>
                          obtain rfl := Option.some.inj ho
                          have e0 : a'.eval (.tmp 186) = .pointer (some ⟨r, 6, none⟩) := is_tq (hin 18 186 (by kernel_rfl) (by kernel_rfl)) rfl
                          exact o_load2 (.tmp 186) rfl _ _ e0 (fits_cell ((unhide HRH).kept hk2 (by simp)) 6 _ rfl) ⟨_, rfl, tq_is _ _ _ _ rfl, Kept.refl _ _, fun _ _ _ _ _ => trivial⟩
                        | 20, ho, hsk =>
                          obtain rfl := Option.some.inj ho
                          have e0 : a'.eval (.tmp 183) = .int .i64 P5.got := is_tq (hin 15 183 (by kernel_rfl) (by kernel_rfl)) rfl
                          have e1 : a'.eval (.tmp 187) = .int .i64 P5.got := is_tq (hin 19 187 (by kernel_rfl) (by kernel_rfl)) rfl
                          exact o_neqT2 (.tmp 183) (.tmp 187) rfl _ _ true (by simp) e0 e1 ⟨_, rfl, tq_is _ _ _ _ rfl, Kept.refl _ _, fun _ _ _ _ _ => trivial⟩
                        | 21, ho, hsk =>
                          obtain rfl := Option.some.inj ho
                          have e0 : a'.eval (.tmp 181) = .bool false := is_tq (hin 13 181 (by kernel_rfl) (by kernel_rfl)) rfl
                          have e1 : a'.eval (.tmp 188) = .bool false := is_tq (hin 20 188 (by kernel_rfl) (by kernel_rfl)) rfl
                          exact o_pickOr0 (.tmp 181) (.tmp 188) rfl _ e0 e1 ⟨_, rfl, tq_is _ _ _ _ rfl, Kept.refl _ _, fun _ _ _ _ _ => trivial⟩
                        | 22, ho, hsk =>
                          obtain rfl := Option.some.inj ho
                          have e0 : a'.eval (.tmp 189) = .bool false := is_tq (hin 21 189 (by kernel_rfl) (by kernel_rfl)) rfl
                          exact wp_move (.tmp 189) rfl _ e0 ⟨_, rfl, tq_is _ _ _ _ rfl, Kept.refl _ _, fun _ _ _ _ _ => trivial⟩
                        | 23, ho, hsk =>
                          obtain rfl := Option.some.inj ho
                          exact wp_move (.tmp 9) rfl _ ((hout 9 (by kernel_rfl)).trans rfl) ⟨_, rfl, tq_is _ _ _ _ rfl, Kept.refl _ _, fun _ _ _ _ _ => trivial⟩
                        | 24, ho, hsk =>
                          obtain rfl := Option.some.inj ho
                          have e0 : a'.eval (.tmp 191) = P0 b := is_tq (hin 23 191 (by kernel_rfl) (by kernel_rfl)) rfl
                          refine wp_callF 24 _ _ rfl #[P0 b] (by simp [e0]) (cf24 _ _) ((owes24 b v5 ws5 P5 _ ((unhide DU).sm.sx.kept0 hk2)).mono ?_)
                          rintro e w3 ⟨rfl, q3, rfl⟩
                          exact ⟨_, rfl, _, rfl, tq_is _ _ _ _ rfl, kept_drewN _ _ _, fun _ _ _ _ _ => trivial⟩
                        | 25, ho, hsk =>
                          obtain rfl := Option.some.inj ho
                          exact wp_move (.tmp 11) rfl _ ((hout 11 (by kernel_rfl)).trans rfl) ⟨_, rfl, tq_is _ _ _ _ rfl, Kept.refl _ _, fun _ _ _ _ _ => trivial⟩
                        | 26, ho, hsk =>
                          obtain rfl := Option.some.inj ho
                          have e0 : a'.eval (.tmp 193) = P0 r := is_tq (hin 25 193 (by kernel_rfl) (by kernel_rfl)) rfl
                          exact o_nil (.tmp 193) rfl _ e0 ⟨_, rfl, tq_is _ _ _ _ rfl, Kept.refl _ _, fun _ _ _ _ _ => trivial⟩
                        | 27, ho, hsk =>
                          obtain rfl := Option.some.inj ho
                          have e0 : a'.eval (.tmp 194) = P0 r := is_tq (hin 26 194 (by kernel_rfl) (by kernel_rfl)) rfl
                          exact o_fld32_7 (.tmp 194) rfl r e0 ⟨_, rfl, tq_is _ _ _ _ rfl, Kept.refl _ _, fun _ _ _ _ _ => trivial⟩
                        | 28, ho, hsk =>
                          obtain rfl := Option.some.inj ho
                          have e0 : a'.eval (.tmp 195) = .pointer (some ⟨r, 7, none⟩) := is_tq (hin 27 195 (by kernel_rfl) (by kernel_rfl)) rfl
                          exact o_load4 (.tmp 195) rfl _ _ e0 (fits_cell ((unhide HRH).kept hk2 (by simp)) 7 _ rfl) ⟨_, rfl, tq_is _ _ _ _ rfl, Kept.refl _ _, fun _ _ _ _ _ => trivial⟩
                        | 29, ho, hsk =>
                          obtain rfl := Option.some.inj ho
                          have e0 : a'.eval (.tmp 192) = .bool P5.owes := is_tq (hin 24 192 (by kernel_rfl) (by kernel_rfl)) rfl
                          have e1 : a'.eval (.tmp 196) = .bool P5.owes := is_tq (hin 28 196 (by kernel_rfl) (by kernel_rfl)) rfl
                          exact o_neq4 (.tmp 192) (.tmp 196) rfl P5.owes e0 e1 ⟨_, rfl, tq_is _ _ _ _ rfl, Kept.refl _ _, fun _ _ _ _ _ => trivial⟩
                        | 30, ho, hsk =>
                          obtain rfl := Option.some.inj ho
                          have e0 : a'.eval (.tmp 190) = .bool false := is_tq (hin 22 190 (by kernel_rfl) (by kernel_rfl)) rfl
                          have e1 : a'.eval (.tmp 197) = .bool false := is_tq (hin 29 197 (by kernel_rfl) (by kernel_rfl)) rfl
                          exact o_pickOr0 (.tmp 190) (.tmp 197) rfl _ e0 e1 ⟨_, rfl, tq_is _ _ _ _ rfl, Kept.refl _ _, fun _ _ _ _ _ => trivial⟩
                      intro X9 hk9
                      replace hk9 : Kept [] wr X9 := ⟨hk9.os, hk9.tape, hk9.output, hk9.size, hk9.block⟩
                      simp only [valsQ, List.map_cons, List.map_nil, Option.getD_some, List.take_succ_cons, List.take_zero, putAll, Act.put, List.setIfInBounds_toArray, List.set_cons_succ, List.set_cons_zero]
                      refine wpAny_done (by kernel_rfl) ?_ _
                      replace DU := hide ((unhide DU).step hk9)
                      clear hk9 HRH
                      go_wp2_with fail
                      go_roundw
                      case rel => exact ⟨k + 1, v5, ws5, rv5, rs5, P5, by omega, by omega, by go_num, DU, HPN⟩
                      case measure => simp [intOf]; omega
                · skip
                  replace HPN : Hid (P.sent.length ≤ k + 1) := by have h2 := unhide HPN; exact (by omega : P.sent.length ≤ k + 1)
                  obtain ⟨P5, hP5⟩ : ∃ P5, P5 = P := ⟨_, rfl⟩
                  rw [← hP5] at DU HPN
                  obtain ⟨v5, hv5⟩ : ∃ z, z = v := ⟨_, rfl⟩
                  obtain ⟨ws5, hw5⟩ : ∃ z, z = ws := ⟨_, rfl⟩
                  obtain ⟨rv5, hr5⟩ : ∃ z, z = rv := ⟨_, rfl⟩
                  obtain ⟨rs5, hs5⟩ : ∃ z, z = rs := ⟨_, rfl⟩
                  rw [← hv5, ← hw5, ← hr5, ← hs5] at DU
                  clear hP5 hv5 hw5 hr5 hs5
                  obtain ⟨ro5, rc5, hrv5, _, _⟩ := (unhide DU).rx.sl
                  have HRV := hide hrv5
                  have HRH := hide (unhide DU).rx.head
                  have HLE : Hid ((rs5.length : Int) - (P5.known : Int) = ws5.length ∧ rs5.length ≤ 1000 ∧ P5.known ≤ rs5.length) := by have h1 := (unhide DU).sm.sx.len; have h2 := (unhide DU).rx.len; have h3 := (unhide DU).rx.ok.many; exact ⟨by omega, by omega, by omega⟩
                  clear hrv5
                  go_wp2_with fail
                  refine wp_region_any mixed (wpAny_tq 31 rfl (by kernel_rfl) [some (P0 b), some (.int .i64 ws5.length), some (P0 r), some (P0 r), some (.pointer (some ⟨r, 3, none⟩)), some (rv5), some (.int .i64 rs5.length), some (P0 r), some (P0 r), some (.pointer (some ⟨r, 4, none⟩)), some (.int .i64 P5.known), some (.int .i64 ws5.length), some (.bool false), some (.bool false), some (P0 b), some (.int .i64 P5.got), some (P0 r), some (P0 r), some (.pointer (some ⟨r, 6, none⟩)), some (.int .i64 P5.got), some (.bool false), some (.bool false), some (.bool false), some (P0 b), some (.bool P5.owes), some (P0 r), some (P0 r), some (.pointer (some ⟨r, 7, none⟩)), some (.bool P5.owes), some (.bool false), some (.bool false)] rfl (by kernel_rfl) (by kernel_rfl) ?_ ?_)
                  · intro i o' hi hsk ho a' w2 hout hin hk2
                    replace hk2 : Kept [] V4 w2 := ⟨hk2.os, hk2.tape, hk2.output, hk2.size, hk2.block⟩
                    match i, ho, hsk with
                    | 0, ho, hsk =>
                      obtain rfl := Option.some.inj ho
                      exact wp_move (.tmp 9) rfl _ ((hout 9 (by kernel_rfl)).trans rfl) ⟨_, rfl, tq_is _ _ _ _ rfl, Kept.refl _ _, fun _ _ _ _ _ => trivial⟩
                    | 1, ho, hsk =>
                      obtain rfl := Option.some.inj ho
                      have e0 : a'.eval (.tmp 168) = P0 b := is_tq (hin 0 168 (by kernel_rfl) (by kernel_rfl)) rfl
                      refine wp_callF 22 _ _ rfl #[P0 b] (by simp [e0]) (cf22 _ _) ((waits22 b v5 ws5 P5 _ ((unhide DU).sm.sx.kept0 hk2)).mono ?_)
                      rintro e w3 ⟨rfl, q3, rfl⟩
                      exact ⟨_, rfl, _, rfl, tq_is _ _ _ _ rfl, kept_drewN _ _ _, fun _ _ _ _ _ => trivial⟩
                    | 2, ho, hsk =>
                      obtain rfl := Option.some.inj ho
                      exact wp_move (.tmp 11) rfl _ ((hout 11 (by kernel_rfl)).trans rfl) ⟨_, rfl, tq_is _ _ _ _ rfl, Kept.refl _ _, fun _ _ _ _ _ => trivial⟩
                    | 3, ho, hsk =>
                      obtain rfl := Option.some.inj ho
                      have e0 : a'.eval (.tmp 170) = P0 r := is_tq (hin 2 170 (by kernel_rfl) (by kernel_rfl)) rfl
                      exact o_nil (.tmp 170) rfl _ e0 ⟨_, rfl, tq_is _ _ _ _ rfl, Kept.refl _ _, fun _ _ _ _ _ => trivial⟩
                    | 4, ho, hsk =>
                      obtain rfl := Option.some.inj ho
                      have e0 : a'.eval (.tmp 171) = P0 r := is_tq (hin 3 171 (by kernel_rfl) (by kernel_rfl)) rfl
                      exact o_fld32_3 (.tmp 171) rfl r e0 ⟨_, rfl, tq_is _ _ _ _ rfl, Kept.refl _ _, fun _ _ _ _ _ => trivial⟩
                    | 5, ho, hsk =>
                      obtain rfl := Option.some.inj ho
                      have e0 : a'.eval (.tmp 172) = .pointer (some ⟨r, 3, none⟩) := is_tq (hin 4 172 (by kernel_rfl) (by kernel_rfl)) rfl
                      exact o_load30 (.tmp 172) rfl _ _ e0 (fits_cell ((unhide HRH).kept hk2 (by simp)) 3 _ rfl) ⟨_, rfl, tq_is _ _ _ _ rfl, Kept.refl _ _, fun _ _ _ _ _ => trivial⟩
                    | 6, ho, hsk =>
                      obtain rfl := Option.some.inj ho
                      have e0 : a'.eval (.tmp 173) = rv5 := is_tq (hin 5 173 (by kernel_rfl) (by kernel_rfl)) rfl
                      exact o_len30 (.tmp 173) rfl ro5 rs5.length rc5 (by rw [e0]; exact unhide HRV) ⟨_, rfl, tq_is _ _ _ _ rfl, Kept.refl _ _, fun _ _ _ _ _ => trivial⟩
                    | 7, ho, hsk =>
                      obtain rfl := Option.some.inj ho
                      exact wp_move (.tmp 11) rfl _ ((hout 11 (by kernel_rfl)).trans rfl) ⟨_, rfl, tq_is _ _ _ _ rfl, Kept.refl _ _, fun _ _ _ _ _ => trivial⟩
                    | 8, ho, hsk =>
                      obtain rfl := Option.some.inj ho
                      have e0 : a'.eval (.tmp 175) = P0 r := is_tq (hin 7 175 (by kernel_rfl) (by kernel_rfl)) rfl
                      exact o_nil (.tmp 175) rfl _ e0 ⟨_, rfl, tq_is _ _ _ _ rfl, Kept.refl _ _, fun _ _ _ _ _ => trivial⟩
                    | 9, ho, hsk =>
                      obtain rfl := Option.some.inj ho
                      have e0 : a'.eval (.tmp 176) = P0 r := is_tq (hin 8 176 (by kernel_rfl) (by kernel_rfl)) rfl
                      exact o_fld32_4 (.tmp 176) rfl r e0 ⟨_, rfl, tq_is _ _ _ _ rfl, Kept.refl _ _, fun _ _ _ _ _ => trivial⟩
                    | 10, ho, hsk =>
                      obtain rfl := Option.some.inj ho
                      have e0 : a'.eval (.tmp 177) = .pointer (some ⟨r, 4, none⟩) := is_tq (hin 9 177 (by kernel_rfl) (by kernel_rfl)) rfl
                      exact o_load3 (.tmp 177) rfl _ _ e0 (fits_cell ((unhide HRH).kept hk2 (by simp)) 4 _ rfl) ⟨_, rfl, tq_is _ _ _ _ rfl, Kept.refl _ _, fun _ _ _ _ _ => trivial⟩
                    | 11, ho, hsk =>
                      obtain rfl := Option.some.inj ho
                      have e0 : a'.eval (.tmp 174) = .int .i64 rs5.length := is_tq (hin 6 174 (by kernel_rfl) (by kernel_rfl)) rfl
                      have e1 : a'.eval (.tmp 178) = .int .i64 P5.known := is_tq (hin 10 178 (by kernel_rfl) (by kernel_rfl)) rfl
                      refine o_sub3 (.tmp 174) (.tmp 178) rfl _ _ (by have := unhide HLE; omega) e0 e1 ?_
                      rw [(unhide HLE).1]
                      exact ⟨_, rfl, tq_is _ _ _ _ rfl, Kept.refl _ _, fun _ _ _ _ _ => trivial⟩
                    | 12, ho, hsk =>
                      obtain rfl := Option.some.inj ho
                      have e0 : a'.eval (.tmp 169) = .int .i64 ws5.length := is_tq (hin 1 169 (by kernel_rfl) (by kernel_rfl)) rfl
                      have e1 : a'.eval (.tmp 179) = .int .i64 ws5.length := is_tq (hin 11 179 (by kernel_rfl) (by kernel_rfl)) rfl
                      exact o_neqT3 (.tmp 169) (.tmp 179) rfl _ _ true (by simp) e0 e1 ⟨_, rfl, tq_is _ _ _ _ rfl, Kept.refl _ _, fun _ _ _ _ _ => trivial⟩
                    | 13, ho, hsk =>
                      obtain rfl := Option.some.inj ho
                      have e0 : a'.eval (.tmp 180) = .bool false := is_tq (hin 12 180 (by kernel_rfl) (by kernel_rfl)) rfl
                      exact wp_move (.tmp 180) rfl _ e0 ⟨_, rfl, tq_is _ _ _ _ rfl, Kept.refl _ _, fun _ _ _ _ _ => trivial⟩
                    | 14, ho, hsk =>
                      obtain rfl := Option.some.inj ho
                      exact wp_move (.tmp 9) rfl _ ((hout 9 (by kernel_rfl)).trans rfl) ⟨_, rfl, tq_is _ _ _ _ rfl, Kept.refl _ _, fun _ _ _ _ _ => trivial⟩
                    | 15, ho, hsk =>
                      obtain rfl := Option.some.inj ho
                      have e0 : a'.eval (.tmp 182) = P0 b := is_tq (hin 14 182 (by kernel_rfl) (by kernel_rfl)) rfl
                      refine wp_callF 23 _ _ rfl #[P0 b] (by simp [e0]) (cf23 _ _) ((got23 b v5 ws5 P5 _ ((unhide DU).sm.sx.kept0 hk2)).mono ?_)
                      rintro e w3 ⟨rfl, q3, rfl⟩
                      exact ⟨_, rfl, _, rfl, tq_is _ _ _ _ rfl, kept_drewN _ _ _, fun _ _ _ _ _ => trivial⟩
                    | 16, ho, hsk =>
                      obtain rfl := Option.some.inj ho
                      exact wp_move (.tmp 11) rfl _ ((hout 11 (by kernel_rfl)).trans rfl) ⟨_, rfl, tq_is _ _ _ _ rfl, Kept.refl _ _, fun _ _ _ _ _ => trivial⟩
                    | 17, ho, hsk =>
                      obtain rfl := Option.some.inj ho
                      have e0 : a'.eval (.tmp 184) = P0 r := is_tq (hin 16 184 (by kernel_rfl) (by kernel_rfl)) rfl
                      exact o_nil (.tmp 184) rfl _ e0 ⟨_, rfl, tq_is _ _ _ _ rfl, Kept.refl _ _, fun _ _ _ _ _ => trivial⟩
                    | 18, ho, hsk =>
                      obtain rfl := Option.some.inj ho
                      have e0 : a'.eval (.tmp 185) = P0 r := is_tq (hin 17 185 (by kernel_rfl) (by kernel_rfl)) rfl
                      exact o_fld32_6 (.tmp 185) rfl r e0 ⟨_, rfl, tq_is _ _ _ _ rfl, Kept.refl _ _, fun _ _ _ _ _ => trivial⟩
                    | 19, ho, hsk =>
                      obtain rfl := Option.some.inj ho
                      have e0 : a'.eval (.tmp 186) = .pointer (some ⟨r, 6, none⟩) := is_tq (hin 18 186 (by kernel_rfl) (by kernel_rfl)) rfl
                      exact o_load2 (.tmp 186) rfl _ _ e0 (fits_cell ((unhide HRH).kept hk2 (by simp)) 6 _ rfl) ⟨_, rfl, tq_is _ _ _ _ rfl, Kept.refl _ _, fun _ _ _ _ _ => trivial⟩
                    | 20, ho, hsk =>
                      obtain rfl := Option.some.inj ho
                      have e0 : a'.eval (.tmp 183) = .int .i64 P5.got := is_tq (hin 15 183 (by kernel_rfl) (by kernel_rfl)) rfl
                      have e1 : a'.eval (.tmp 187) = .int .i64 P5.got := is_tq (hin 19 187 (by kernel_rfl) (by kernel_rfl)) rfl
                      exact o_neqT2 (.tmp 183) (.tmp 187) rfl _ _ true (by simp) e0 e1 ⟨_, rfl, tq_is _ _ _ _ rfl, Kept.refl _ _, fun _ _ _ _ _ => trivial⟩
                    | 21, ho, hsk =>
                      obtain rfl := Option.some.inj ho
                      have e0 : a'.eval (.tmp 181) = .bool false := is_tq (hin 13 181 (by kernel_rfl) (by kernel_rfl)) rfl
                      have e1 : a'.eval (.tmp 188) = .bool false := is_tq (hin 20 188 (by kernel_rfl) (by kernel_rfl)) rfl
                      exact o_pickOr0 (.tmp 181) (.tmp 188) rfl _ e0 e1 ⟨_, rfl, tq_is _ _ _ _ rfl, Kept.refl _ _, fun _ _ _ _ _ => trivial⟩
                    | 22, ho, hsk =>
                      obtain rfl := Option.some.inj ho
                      have e0 : a'.eval (.tmp 189) = .bool false := is_tq (hin 21 189 (by kernel_rfl) (by kernel_rfl)) rfl
                      exact wp_move (.tmp 189) rfl _ e0 ⟨_, rfl, tq_is _ _ _ _ rfl, Kept.refl _ _, fun _ _ _ _ _ => trivial⟩
                    | 23, ho, hsk =>
                      obtain rfl := Option.some.inj ho
                      exact wp_move (.tmp 9) rfl _ ((hout 9 (by kernel_rfl)).trans rfl) ⟨_, rfl, tq_is _ _ _ _ rfl, Kept.refl _ _, fun _ _ _ _ _ => trivial⟩
                    | 24, ho, hsk =>
                      obtain rfl := Option.some.inj ho
                      have e0 : a'.eval (.tmp 191) = P0 b := is_tq (hin 23 191 (by kernel_rfl) (by kernel_rfl)) rfl
                      refine wp_callF 24 _ _ rfl #[P0 b] (by simp [e0]) (cf24 _ _) ((owes24 b v5 ws5 P5 _ ((unhide DU).sm.sx.kept0 hk2)).mono ?_)
                      rintro e w3 ⟨rfl, q3, rfl⟩
                      exact ⟨_, rfl, _, rfl, tq_is _ _ _ _ rfl, kept_drewN _ _ _, fun _ _ _ _ _ => trivial⟩
                    | 25, ho, hsk =>
                      obtain rfl := Option.some.inj ho
                      exact wp_move (.tmp 11) rfl _ ((hout 11 (by kernel_rfl)).trans rfl) ⟨_, rfl, tq_is _ _ _ _ rfl, Kept.refl _ _, fun _ _ _ _ _ => trivial⟩
                    | 26, ho, hsk =>
                      obtain rfl := Option.some.inj ho
                      have e0 : a'.eval (.tmp 193) = P0 r := is_tq (hin 25 193 (by kernel_rfl) (by kernel_rfl)) rfl
                      exact o_nil (.tmp 193) rfl _ e0 ⟨_, rfl, tq_is _ _ _ _ rfl, Kept.refl _ _, fun _ _ _ _ _ => trivial⟩
                    | 27, ho, hsk =>
                      obtain rfl := Option.some.inj ho
                      have e0 : a'.eval (.tmp 194) = P0 r := is_tq (hin 26 194 (by kernel_rfl) (by kernel_rfl)) rfl
                      exact o_fld32_7 (.tmp 194) rfl r e0 ⟨_, rfl, tq_is _ _ _ _ rfl, Kept.refl _ _, fun _ _ _ _ _ => trivial⟩
                    | 28, ho, hsk =>
                      obtain rfl := Option.some.inj ho
                      have e0 : a'.eval (.tmp 195) = .pointer (some ⟨r, 7, none⟩) := is_tq (hin 27 195 (by kernel_rfl) (by kernel_rfl)) rfl
                      exact o_load4 (.tmp 195) rfl _ _ e0 (fits_cell ((unhide HRH).kept hk2 (by simp)) 7 _ rfl) ⟨_, rfl, tq_is _ _ _ _ rfl, Kept.refl _ _, fun _ _ _ _ _ => trivial⟩
                    | 29, ho, hsk =>
                      obtain rfl := Option.some.inj ho
                      have e0 : a'.eval (.tmp 192) = .bool P5.owes := is_tq (hin 24 192 (by kernel_rfl) (by kernel_rfl)) rfl
                      have e1 : a'.eval (.tmp 196) = .bool P5.owes := is_tq (hin 28 196 (by kernel_rfl) (by kernel_rfl)) rfl
                      exact o_neq4 (.tmp 192) (.tmp 196) rfl P5.owes e0 e1 ⟨_, rfl, tq_is _ _ _ _ rfl, Kept.refl _ _, fun _ _ _ _ _ => trivial⟩
                    | 30, ho, hsk =>
                      obtain rfl := Option.some.inj ho
                      have e0 : a'.eval (.tmp 190) = .bool false := is_tq (hin 22 190 (by kernel_rfl) (by kernel_rfl)) rfl
                      have e1 : a'.eval (.tmp 197) = .bool false := is_tq (hin 29 197 (by kernel_rfl) (by kernel_rfl)) rfl
                      exact o_pickOr0 (.tmp 190) (.tmp 197) rfl _ e0 e1 ⟨_, rfl, tq_is _ _ _ _ rfl, Kept.refl _ _, fun _ _ _ _ _ => trivial⟩
                  intro X9 hk9
                  replace hk9 : Kept [] V4 X9 := ⟨hk9.os, hk9.tape, hk9.output, hk9.size, hk9.block⟩
                  simp only [valsQ, List.map_cons, List.map_nil, Option.getD_some, List.take_succ_cons, List.take_zero, putAll, Act.put, List.setIfInBounds_toArray, List.set_cons_succ, List.set_cons_zero]
                  refine wpAny_done (by kernel_rfl) ?_ _
                  replace DU := hide ((unhide DU).step hk9)
                  clear hk9 HRH
                  go_wp2_with fail
                  go_roundw
                  case rel => exact ⟨k + 1, v5, ws5, rv5, rs5, P5, by omega, by omega, by go_num, DU, HPN⟩
                  case measure => simp [intOf]; omega
        · have hltI : ¬ (k : Int) < (m : Int) := by omega
          go_wp2_with (
            first
            | (go_at_call 11
               refine (known11 _).mono ?_
               rintro e V11 ⟨rfl, hk⟩
               replace DU := hide ((unhide DU).step hk)
               clear hk))
          go_ret
          exact ⟨rfl, (unhide DU).k⟩
    · have hmI : (60 : Int) < (m : Int) := by omega
      go_enter Try.func3, Try.ntmps3
      go_wp2_with (
        first
        | (go_at_call 9
           refine (unhide PN).mono ?_
           rintro e V1 ⟨b, rfl, e1, hs, hk⟩
           have HK := hide hk
           clear e1 hs hk PN)
        | (go_at_call 10
           refine (unhide PM _).mono ?_
           rintro e V2 ⟨rfl, hw9⟩
           obtain rfl := hw9.symm
           clear hw9 PM)
        | (go_at_call 11
           refine (known11 _).mono ?_
           rintro e V3 ⟨rfl, hk⟩
           replace HK := hide ((unhide HK).trans hk)
           clear hk))
      go_ret
      exact ⟨rfl, unhide HK⟩

end Go.Proofs.Ythbgnpbkdeofcaa

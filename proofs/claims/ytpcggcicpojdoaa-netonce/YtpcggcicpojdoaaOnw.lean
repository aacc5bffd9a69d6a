/-
  The walk of NetOnce.
-/
import Derived.Test.YtpcggcicpojdoaaKn
import Derived.Test.YtpcggcicpojdoaaOn
namespace Go.Proofs.Ytpcggcicpojdoaa
open Go.RowKit

theorem row_one {W : World} {v : Value} {bs : List Int} (h : RowAt W v bs) : v.oneCell' = true := by
  obtain ⟨ao, c, rfl, _⟩ := h
  rfl
theorem cellsL_rg {w : World} {base n : Nat} {F : List Ltr} {g sc k : Nat} {l : Ltr} (h : w.ownsRow base 47 4 (.slice (some ⟨g, 0, none⟩) n sc) F.length (cellsL F)) (hl : F[k]? = some l) : w.rangeAt g (k * 4) l.C := by
  obtain ⟨g', e, hr⟩ := cellsL_at h hl
  cases e
  exact hr
theorem cg19 (vs : Array Value) (w : World) : (callFunc 19 vs).run Try.prog w = .ok (.enter 19 vs) w := by kernel_rfl
theorem same_was {w : World} {l s : Ltr} {u : Value} (h : s.num = l.num ∧ s.fr = l.fr ∧ s.to = l.to ∧ s.bs = l.bs) (h1 : RowAt w u l.bs) (h2 : RowAt w s.v s.bs) : Calls Try.prog 19 #[aggV (l.D u), aggV s.C] w fun e w' => e = .returned (.bool true) ∧ Kept [] w w' := by
  obtain ⟨n, f, t, v, bs⟩ := s
  obtain ⟨rfl, rfl, rfl, rfl⟩ := h
  exact same19 _ _ _ u v _ w h1 h2
section
variable {o : Oper} {a : Act} {w : World} {K : Act → World → Prop} {Q : Exit → Act → World → Prop}
theorem o_fld36_3 (x : Operand) (ho : o.op = .fieldAddr 36 x 3) (b : Nat) (hx : a.eval x = P0 b) (h : K (a.put o.dst (.pointer (some ⟨b, 3, none⟩))) w) : o.wp Try.prog a w K Q := by
  unfold Oper.wp execOp
  simp only [ho, hx]
  simp [go_sem]
  exact h
theorem o_neq2s (x y : Operand) (ho : o.op = .binOp .neq 2 x y 2) (m : Int) (hx : a.eval x = .int .i64 m) (hy : a.eval y = .int .i64 m) (h : K (a.put o.dst (.bool false)) w) : o.wp Try.prog a w K Q := by
  unfold Oper.wp execOp
  simp only [ho, hx, hy]
  simp [go_sem]
  exact h
theorem o_dec2 (x : Operand) (ho : o.op = .binOp .sub 2 x (.const (.int .i64 1)) 2) (j : Nat) (hj : j ≤ 1000) (hx : a.eval x = .int .i64 ((j : Int) + 1)) (h : K (a.put o.dst (.int .i64 j)) w) : o.wp Try.prog a w K Q := by
  have e : (j : Int) + 1 - 1 = j := by omega
  have hw2 : IntKind.i64.wrap (j : Int) = j := by rw [IntKind.wrap_i64]; omega
  unfold Oper.wp execOp
  simp only [ho, hx]
  simp [go_sem, hw2, e]
  exact h
theorem o_idx43 (x y : Operand) (ho : o.op = .indexAddr 43 x y) (g m c k : Nat) (hk : k < m) (hx : a.eval x = .slice (some ⟨g, 0, none⟩) m c) (hy : a.eval y = .int .i64 k) (h : K (a.put o.dst (.pointer (some ⟨g, k * 4, none⟩))) w) : o.wp Try.prog a w K Q := by
  unfold Oper.wp execOp
  simp only [ho, hx, hy]
  simp [go_sem, hk]
  exact h
end
set_option maxHeartbeats 16000000 in
set_option maxRecDepth 100000 in
theorem once5 (ao : Option Addr) (m c : Nat) (X : List Stq) (w : World) (hS : Scq w w.heap.size ao m c X) (hm : m ≤ 9223372036854775807) (hkn : ∀ W, Calls Try.prog 10 #[] W fun e w' => e = .returned (.bool true) ∧ Kept [] W w') : Calls Try.prog 5 #[.slice ao m c] w fun e w' => e = .returned (.bool true) ∧ Kept [] w w' := by
  have HS := hide hS
  have PK := hide hkn
  have HK := hide (Kept.refl [] w)
  clear hS hkn
  go_enter Try.func5, Try.ntmps5
  go_wp2_with (
    first
    | (go_at_call 10
       refine (unhide PK _).mono ?_
       rintro e V1 ⟨rfl, hk⟩
       replace HK := hide ((unhide HK).trans hk)
       clear hk
       refine Stp.go ?_))
  constructor
  go_wp2_with (
    first
    | (go_at_call 11
       refine (much11 w.heap.size ao m c X _ ((unhide HS).kept (unhide HK) (by simp)) hm).mono ?_
       rintro e V2 ⟨rm, rfl, hw9⟩
       obtain rfl := hw9.symm
       clear hw9
       refine Stp.go ?_))
  constructor
  cases rm with
  | true =>
    go_wp2_with fail
    go_ret
    exact ⟨rfl, unhide HK⟩
  | false =>
    go_wp2_with (
      first
      | (go_at_call 7
         refine (new_yes 8 _ (by decide)).mono ?_
         rintro e V3 ⟨b, mb, rfl, g1, g2, hn, hk⟩
         have ON : Hid (On w V3 b mb (.slice none 0 0) [] (.slice none 0 0) [] 0) := ⟨⟨hn, (unhide HK).trans hk, by have := (unhide HK).size; omega, by have := (unhide HK).size; omega, fun i h => by cases h⟩, World.ownsRow_nil _ _ _ _, (fun s hs => by cases hs), (fun i s hs => by simp at hs), (fun l hl => by cases hl), rfl, Int.le_refl _⟩
         clear g1 g2 hn hk HK
         refine Stp.go ?_))
    constructor
    go_wp2_with (
      first
      | (go_at_call 9
         refine (st_num9 _ _).mono ?_
         rintro e w' ⟨rfl, hw9⟩
         obtain rfl := hw9.symm
         clear hw9))
    go_loopw [5, 6, 7] (fun sv gn i wr => ∃ (k : Nat) (gone : Int) (v : Value) (L S : List Ltr), k ≤ m ∧ k ≤ 100 ∧ S.length ≤ k ∧ gn = .int .i64 gone ∧ i = .int .i64 k ∧ Hid (On w wr b mb v L sv S gone)) (fun _ _ i _ => 100 - (intOf i).toNat)
    case atStart => exact ⟨0, 0, _, [], [], by omega, by omega, by simp, rfl, rfl, ON⟩
    case round =>
      clear ON
      obtain ⟨k, gone, v, L, S, hk, hk1, hSk, rfl, rfl, ON⟩ := hrel
      obtain ⟨so, sc, rfl⟩ := owns_slN (unhide ON).sent
      have HCN := hide (unhide ON).cnt
      have hg0 := (unhide ON).g0
      have hgl : gone ≤ S.length := by have := (unhide ON).cnt; omega
      have hq0 : ((L.length : Int) != (S.length : Int) - gone) = false := by have := unhide HCN; simp; omega
      have hq1 : ((L.length : Int) + 1 != (S.length : Int) + 1 - gone) = false := by have := unhide HCN; simp; omega
      have hL4 : L.length ≤ 100 := by have := unhide HCN; omega
      by_cases hlt : k < m
      · by_cases h1 : k < 100
        · obtain ⟨x, hx⟩ : ∃ x, X[k]? = some x := ⟨_, List.getElem?_eq_getElem (by rw [(unhide HS).len]; exact hlt)⟩
          have hS3 := (unhide HS).kept (unhide ON).kn.k (by simp)
          obtain ⟨h, off, rfl, _, hl⟩ := hS3.lies (by intro e; rw [e] at hx; simp at hx)
          have HR := hide (hl k x hx)
          have HX := hide ((unhide HS).ok x (List.mem_of_getElem? hx))
          have hltI : (k : Int) < m := by omega
          have h1I : (k : Int) < 100 := by omega
          have hSI : (S.length : Int) ≤ 100 := by omega
          have hxn := (unhide HX).num
          clear hl hS3 hx
          by_cases k1 : x.k = 1
          · cases hb : (hasN 8 x.a && hasN 8 x.b && decide (x.a ≠ x.b)) with
            | false =>
              have P16 := hide (fun W (h : Kn w W b mb v ⟨8, S.length, L⟩) => send_arg b mb v ⟨8, S.length, L⟩ x.a x.b x.ao x.m x.c W h.nt hb)
              go_wp2_with (
                first
                | (refine wpLoadA row36 (by rfl) (.tmp 41) (by rfl) h (off + k * 5) (by kernel_rfl) x.C rfl (unhide HR) ?_
                   refine Stp.go ?_))
              constructor
              go_wp2_with (
                first
                | (refine wpNew row36 z36 rfl alloc36 8 (by rfl) (by rfl) (by rfl) (.tmp 42) (by rfl) (by rfl) (by rfl) x.C rfl x.one (by kernel_rfl) (by kernel_rfl) ?_
                   intro V1 p8 e8 B8 K8
                   have HX8 := hide B8
                   have hx0 := fits_cell B8 0 (.int .i64 x.k) rfl
                   have hx1 := fits_cell B8 1 (.int .i64 x.a) rfl
                   have hx2 := fits_cell B8 2 (.int .i64 x.b) rfl
                   have hx3 := fits_cell B8 3 (.int .i64 x.n) rfl
                   have hx4 := fits_cell B8 4 (.slice x.ao x.m x.c) rfl
                   replace ON := hide ((unhide ON).step K8)
                   clear e8 B8 K8 HR
                   refine Stp.go ?_))
              constructor
              go_wp2_with (
                first
                | (go_at_call 16
                   refine (unhide P16 _ (unhide ON).kn).mono ?_
                   rintro e V2 ⟨rfl, hw9⟩
                   obtain rfl := hw9.symm
                   clear hw9
                   refine Stp.go ?_))
              constructor
              go_wp2_with (
                first
                | (go_at_call 9
                   refine (st_num9 _ _).mono ?_
                   rintro e w' ⟨rfl, hw9⟩
                   obtain rfl := hw9.symm
                   clear hw9))
              go_roundw
              case rel => exact ⟨k + 1, gone, v, L, S, by omega, by omega, by first | omega | (simp; omega), by first | rfl | go_num, by go_num, ON⟩
              case measure => simp [intOf]; omega
            | true =>
              by_cases hlong : 512 < x.m
              · have P16 := hide (fun W (h : Kn w W b mb v ⟨8, S.length, L⟩) => send_long b mb v ⟨8, S.length, L⟩ x.a x.b x.ao x.m x.c W h.nt hb hlong)
                go_wp2_with (
                  first
                  | (refine wpLoadA row36 (by rfl) (.tmp 41) (by rfl) h (off + k * 5) (by kernel_rfl) x.C rfl (unhide HR) ?_
                     refine Stp.go ?_))
                constructor
                go_wp2_with (
                  first
                  | (refine wpNew row36 z36 rfl alloc36 8 (by rfl) (by rfl) (by rfl) (.tmp 42) (by rfl) (by rfl) (by rfl) x.C rfl x.one (by kernel_rfl) (by kernel_rfl) ?_
                     intro V1 p8 e8 B8 K8
                     have HX8 := hide B8
                     have hx0 := fits_cell B8 0 (.int .i64 x.k) rfl
                     have hx1 := fits_cell B8 1 (.int .i64 x.a) rfl
                     have hx2 := fits_cell B8 2 (.int .i64 x.b) rfl
                     have hx3 := fits_cell B8 3 (.int .i64 x.n) rfl
                     have hx4 := fits_cell B8 4 (.slice x.ao x.m x.c) rfl
                     replace ON := hide ((unhide ON).step K8)
                     clear e8 B8 K8 HR
                     refine Stp.go ?_))
                constructor
                go_wp2_with (
                  first
                  | (go_at_call 16
                     refine (unhide P16 _ (unhide ON).kn).mono ?_
                     rintro e V2 ⟨rfl, hw9⟩
                     obtain rfl := hw9.symm
                     clear hw9
                     refine Stp.go ?_))
                constructor
                go_wp2_with (
                  first
                  | (go_at_call 9
                     refine (st_num9 _ _).mono ?_
                     rintro e w' ⟨rfl, hw9⟩
                     obtain rfl := hw9.symm
                     clear hw9))
                go_roundw
                case rel => exact ⟨k + 1, gone, v, L, S, by omega, by omega, by first | omega | (simp; omega), by first | rfl | go_num, by go_num, ON⟩
                case measure => simp [intOf]; omega
              · have P16 := hide (fun W (h : Kn w W b mb v ⟨8, S.length, L⟩) => send_yes b mb v ⟨8, S.length, L⟩ x.a x.b x.ao x.m x.c x.bs W h.nt ((unhide HX).kept h.k (by simp)).vals (unhide HX).nil (unhide HX).byte (fun hne g off e => by have g1 := (unhide HX).old hne g off e; have g2 := h.ge.1; omega) hb (by omega) (by show (S.length : Int) ≤ _; omega) (by show L.length < 4096; omega))
                go_wp2_with (
                  first
                  | (refine wpLoadA row36 (by rfl) (.tmp 41) (by rfl) h (off + k * 5) (by kernel_rfl) x.C rfl (unhide HR) ?_
                     refine Stp.go ?_))
                constructor
                go_wp2_with (
                  first
                  | (refine wpNew row36 z36 rfl alloc36 8 (by rfl) (by rfl) (by rfl) (.tmp 42) (by rfl) (by rfl) (by rfl) x.C rfl x.one (by kernel_rfl) (by kernel_rfl) ?_
                     intro V1 p8 e8 B8 K8
                     have HX8 := hide B8
                     have hx0 := fits_cell B8 0 (.int .i64 x.k) rfl
                     have hx1 := fits_cell B8 1 (.int .i64 x.a) rfl
                     have hx2 := fits_cell B8 2 (.int .i64 x.b) rfl
                     have hx3 := fits_cell B8 3 (.int .i64 x.n) rfl
                     have hx4 := fits_cell B8 4 (.slice x.ao x.m x.c) rfl
                     replace ON := hide ((unhide ON).step K8)
                     clear e8 B8 K8 HR
                     refine Stp.go ?_))
                constructor
                go_wp2_with (
                  first
                  | (go_at_call 16
                     refine (unhide P16 _ (unhide ON).kn).mono ?_
                     clear hx0 hx1 hx2 hx3 hx4
                     rintro e V2 ⟨v1, u1, rfl, hn, hk2, hv⟩
                     have HN1 := hide hn
                     have HK1 := hide hk2
                     have HV1 := hide hv
                     replace HX8 := hide ((unhide HX8).kept hk2 ((unhide ON).kn.apart (unhide HX8) (by decide) (by decide)))
                     have hx0 := fits_cell (unhide HX8) 0 (.int .i64 x.k) rfl
                     have hx1 := fits_cell (unhide HX8) 1 (.int .i64 x.a) rfl
                     have hx2 := fits_cell (unhide HX8) 2 (.int .i64 x.b) rfl
                     have hx3 := fits_cell (unhide HX8) 3 (.int .i64 x.n) rfl
                     have hx4 := fits_cell (unhide HX8) 4 (.slice x.ao x.m x.c) rfl
                     clear hn hk2 hv
                     refine Stp.go ?_))
                constructor
                go_wp2_with (
                  first
                  | (go_at_call 9
                     refine (st_num9 _ _).mono ?_
                     rintro e w' ⟨rfl, hw9⟩
                     obtain rfl := hw9.symm
                     clear hw9
                     refine Stp.go ?_))
                constructor
                go_wp2_with (
                  first
                  | (refine wpBuildP (by rfl) #[(0, .tmp 67), (1, .tmp 69), (2, .tmp 71), (3, .tmp 73)] (by rfl) #[(0, .int .i64 ((S.length : Int) + 1)), (1, .int .i64 x.a), (2, .int .i64 x.b), (3, .slice x.ao x.m x.c)] (by kernel_rfl) [.int .i64 ((S.length : Int) + 1), .int .i64 x.a, .int .i64 x.b, .slice x.ao x.m x.c] (by kernel_rfl) ?_
                     refine Stp.go ?_))
                constructor
                go_wp2_with (
                  first
                  | (refine wpBSliceL (by rfl) (.tmp 74) (by rfl) (.int .i64 ((S.length : Int) + 1)) (.int .i64 x.a) (.int .i64 x.b) (.slice x.ao x.m x.c) (by kernel_rfl) ?_
                     intro V8 g8 e8 B8 K8
                     have HG := hide B8
                     have HK2 := hide K8
                     clear e8 B8 K8
                     refine Stp.go ?_))
                constructor
                go_wp2_with (
                  first
                  | (at_builtin; refine wpAppL (by rfl) (.tmp 66) (.tmp 75) (by rfl) w.heap.size _ S.length (cellsL S) (by kernel_rfl) g8 (by kernel_rfl) [.int .i64 ((S.length : Int) + 1), .int .i64 x.a, .int .i64 x.b, .slice x.ao x.m x.c] rfl (unhide HG) (fun u hu => by simp at hu; rcases hu with rfl | rfl | rfl | rfl <;> rfl) (owns_keptX (owns_apart (unhide ON).kn (unhide ON).sent (unhide HK1)) (unhide HK2) (by simp)) (by omega) (by have h7 := (unhide ON).kn.k.size; have h8 := (unhide HK1).size; have h9 := (unhide HK2).size; omega) ?_
                     intro sv' V9 hO9 g9
                     obtain ⟨so9, sc9, rfl⟩ := owns_slN hO9
                     replace ON := hide ((unhide ON).put ⟨(S.length : Int) + 1, x.a, x.b, u1, x.bs⟩ ⟨(S.length : Int) + 1, x.a, x.b, .slice x.ao x.m x.c, x.bs⟩ (unhide HN1) (unhide HK1) (unhide HV1) rfl rfl rfl rfl rfl (vals_rowAt (unhide HX).vals) (unhide HK2) g9 hO9)
                     clear hO9 g9 HN1 HK1 HV1 HK2 HG
                     refine Stp.go ?_))
                constructor
                go_wp2_with (
                  first
                  | (go_at_call 21
                     refine (len21 b mb _ _ _ (unhide ON).kn.nt).mono ?_
                     rintro e w' ⟨rfl, hw9⟩
                     obtain rfl := hw9.symm
                     clear hw9))
                go_roundw
                case rel => exact ⟨k + 1, gone, v1, _, _, by omega, by omega, by first | omega | (simp; omega), by first | rfl | go_num, by go_num, ON⟩
                case measure => simp [intOf]; omega
          · by_cases k4 : x.k = 4
            · cases hp : placeOf x.n L 0 with
              | none =>
                have P17 := hide (fun W (h : Kn w W b mb v ⟨8, S.length, L⟩) => double_none b mb v ⟨8, S.length, L⟩ x.n W h.nt hp)
                clear hp
                go_wp2_with (
                  first
                  | (refine wpLoadA row36 (by rfl) (.tmp 41) (by rfl) h (off + k * 5) (by kernel_rfl) x.C rfl (unhide HR) ?_
                     refine Stp.go ?_))
                constructor
                go_wp2_with (
                  first
                  | (refine wpNew row36 z36 rfl alloc36 8 (by rfl) (by rfl) (by rfl) (.tmp 42) (by rfl) (by rfl) (by rfl) x.C rfl x.one (by kernel_rfl) (by kernel_rfl) ?_
                     intro V1 p8 e8 B8 K8
                     have HX8 := hide B8
                     have hx0 := fits_cell B8 0 (.int .i64 x.k) rfl
                     have hx1 := fits_cell B8 1 (.int .i64 x.a) rfl
                     have hx2 := fits_cell B8 2 (.int .i64 x.b) rfl
                     have hx3 := fits_cell B8 3 (.int .i64 x.n) rfl
                     have hx4 := fits_cell B8 4 (.slice x.ao x.m x.c) rfl
                     replace ON := hide ((unhide ON).step K8)
                     clear e8 B8 K8 HR
                     refine Stp.go ?_))
                constructor
                go_wp2_with (
                  first
                  | (go_at_call 17
                     refine (unhide P17 _ (unhide ON).kn).mono ?_
                     clear hx0 hx1 hx2 hx3 hx4
                     rintro e V2 ⟨rfl, hk2⟩
                     replace ON := hide ((unhide ON).step hk2)
                     replace HX8 := hide ((unhide HX8).kept hk2 (by simp))
                     have hx0 := fits_cell (unhide HX8) 0 (.int .i64 x.k) rfl
                     have hx1 := fits_cell (unhide HX8) 1 (.int .i64 x.a) rfl
                     have hx2 := fits_cell (unhide HX8) 2 (.int .i64 x.b) rfl
                     have hx3 := fits_cell (unhide HX8) 3 (.int .i64 x.n) rfl
                     have hx4 := fits_cell (unhide HX8) 4 (.slice x.ao x.m x.c) rfl
                     clear hk2
                     refine Stp.go ?_))
                constructor
                go_wp2_with (
                  first
                  | (go_at_call 9
                     refine (st_num9 _ _).mono ?_
                     rintro e w' ⟨rfl, hw9⟩
                     obtain rfl := hw9.symm
                     clear hw9))
                go_roundw
                case rel => exact ⟨k + 1, gone, v, L, S, by omega, by omega, by first | omega | (simp; omega), by first | rfl | go_num, by go_num, ON⟩
                case measure => simp [intOf]; omega
              | some il =>
                obtain ⟨i, l⟩ := il
                obtain ⟨_, hLi, hln⟩ := placeOf_some hp
                simp only [Nat.sub_zero] at hLi
                obtain ⟨j, s, hj1, hSj, s1, s2, s3, s4⟩ := (unhide ON).was l (look_mem hp)
                have hxe : x.n = (j : Int) + 1 := by rw [← hln, hj1]
                have hjS : j < S.length := (List.getElem?_eq_some_iff.1 hSj).1
                obtain ⟨g, hso, _⟩ := cellsL_at (unhide ON).sent hSj
                subst hso
                have HXE := hide hxe
                have hjI : (j : Int) + 1 < (S.length : Int) + 1 := by omega
                have hj0 : (1 : Int) ≤ (j : Int) + 1 := by omega
                have hj2 : (j : Int) < S.length := by omega
                have HSJ := hide hSj
                have HSR := hide ((unhide ON).row s (List.mem_of_getElem? hSj))
                have HW := hide (And.intro s1 (And.intro s2 (And.intro s3 s4)))
                have HNUM : Hid (l.num = (j : Int) + 1) := hj1
                have P17 := hide (fun W (h : Kn w W b mb v ⟨8, S.length, L⟩) => double_yes b mb v ⟨8, S.length, L⟩ x.n i l W h.nt hp (by show (S.length : Int) ≤ _; omega) (by show L.length < 4096; omega))
                rw [hxe] at P17
                clear hp hLi hln hj1 hSj s1 s2 s3 s4 hxe hxn
                go_wp2_with (
                  first
                  | (refine wpLoadA row36 (by rfl) (.tmp 41) (by rfl) h (off + k * 5) (by kernel_rfl) x.C rfl (unhide HR) ?_
                     refine Stp.go ?_))
                constructor
                go_wp2_with (
                  first
                  | (refine wpNew row36 z36 rfl alloc36 8 (by rfl) (by rfl) (by rfl) (.tmp 42) (by rfl) (by rfl) (by rfl) x.C rfl x.one (by kernel_rfl) (by kernel_rfl) ?_
                     intro V1 p8 e8 B8 K8
                     have HX8 := hide B8
                     have hx0 := fits_cell B8 0 (.int .i64 x.k) rfl
                     have hx1 := fits_cell B8 1 (.int .i64 x.a) rfl
                     have hx2 := fits_cell B8 2 (.int .i64 x.b) rfl
                     have hx3 := fits_cell B8 3 (.int .i64 ((j : Int) + 1)) (by rw [← unhide HXE]; rfl)
                     have hx4 := fits_cell B8 4 (.slice x.ao x.m x.c) rfl
                     replace ON := hide ((unhide ON).step K8)
                     clear e8 B8 K8 HR
                     refine Stp.go ?_))
                constructor
                go_wp2_with (
                  first
                  | (go_at_call 17
                     refine (unhide P17 _ (unhide ON).kn).mono ?_
                     clear hx0 hx1 hx2 hx3 hx4
                     rintro e V2 ⟨v1, u1, rfl, hn, hk2, hv⟩
                     have HN1 := hide hn
                     have HK1 := hide hk2
                     have HV1 := hide hv
                     replace HX8 := hide ((unhide HX8).kept hk2 ((unhide ON).kn.apart (unhide HX8) (by decide) (by decide)))
                     have HRS := hide (cellsL_rg (owns_apart (unhide ON).kn (unhide ON).sent hk2) (unhide HSJ))
                     have hx0 := fits_cell (unhide HX8) 0 (.int .i64 x.k) rfl
                     have hx1 := fits_cell (unhide HX8) 1 (.int .i64 x.a) rfl
                     have hx2 := fits_cell (unhide HX8) 2 (.int .i64 x.b) rfl
                     have hx3 := fits_cell (unhide HX8) 3 (.int .i64 ((j : Int) + 1)) (by rw [← unhide HXE]; rfl)
                     have hx4 := fits_cell (unhide HX8) 4 (.slice x.ao x.m x.c) rfl
                     clear hn hk2 hv
                     refine Stp.go ?_))
                constructor
                go_wp2_with (
                  first
                  | (go_at_call 9
                     refine (st_num9 _ _).mono ?_
                     rintro e w' ⟨rfl, hw9⟩
                     obtain rfl := hw9.symm
                     clear hw9
                     refine Stp.go ?_))
                constructor
                go_wp2_with (
                  first
                  | (refine wpLoadA row47 (by rfl) (.tmp 109) (by rfl) g (j * 4) (by kernel_rfl) s.C rfl (unhide HRS) ?_
                     refine Stp.go ?_))
                constructor
                go_wp2_with (
                  first
                  | (refine wpNew row47 zL rfl alloc47 13 (by rfl) (by rfl) (by rfl) (.tmp 110) (by rfl) (by rfl) (by rfl) s.C rfl (D_one (l := s) (row_one (unhide HSR))) (by kernel_rfl) (by kernel_rfl) ?_
                     intro V4 p13 e13 B13 K13
                     have HB13 := hide B13
                     have HG13 : Hid (V2.heap.size ≤ p13) := by rw [e13]; exact (Nat.le_refl _ : V2.heap.size ≤ V2.heap.size)
                     have HK3 := hide K13
                     clear e13 B13 K13 hx0 hx1 hx2 hx3 hx4
                     refine Stp.go ?_))
                constructor
                go_wp2_with (
                  first
                  | (refine wpStoreV (T := 2) (b := p13) (i := 0) (v := .int .i64 ((S.length : Int) + 1)) (by rfl) (.tmp 112) (.tmp 111) (by rfl) (by rfl) (by kernel_rfl) (by kernel_rfl) 47 _ (unhide HB13) (st2 _ _ _ _ _ _ (unhide HB13) (by simp [Ltr.C])) ?_
                     intro V5 B5 K5
                     replace HB13 : Hid (Blk V5 p13 47 [.int .i64 ((S.length : Int) + 1), .int .i64 s.fr, .int .i64 s.to, s.v]) := B5
                     replace HK3 := hide ((unhide HK3).fresh K5 (fun i hi hl => by have : V2.heap.size ≤ p13 := unhide HG13; simp at hi; omega))
                     clear B5 K5
                     refine Stp.go ?_))
                constructor
                go_wp2_with (
                  first
                  | (refine wpLoadA row47 (by rfl) (.tmp 13) (by rfl) p13 0 (by kernel_rfl) [.int .i64 ((S.length : Int) + 1), .int .i64 s.fr, .int .i64 s.to, s.v] rfl (unhide HB13).range ?_
                     refine Stp.go ?_))
                constructor
                go_wp2_with (
                  first
                  | (refine wpBSliceL (by rfl) (.tmp 114) (by rfl) (.int .i64 ((S.length : Int) + 1)) (.int .i64 s.fr) (.int .i64 s.to) s.v (by kernel_rfl) ?_
                     intro V8 g8 e8 B8 K8
                     have HG := hide B8
                     have HK2 := hide ((unhide HK3).trans K8)
                     clear e8 B8 K8
                     refine Stp.go ?_))
                constructor
                go_wp2_with (
                  first
                  | (at_builtin; refine wpAppL (by rfl) (.tmp 113) (.tmp 115) (by rfl) w.heap.size _ S.length (cellsL S) (by kernel_rfl) g8 (by kernel_rfl) [.int .i64 ((S.length : Int) + 1), .int .i64 s.fr, .int .i64 s.to, s.v] rfl (unhide HG) (D_one (l := ⟨(S.length : Int) + 1, s.fr, s.to, s.v, s.bs⟩) (row_one (unhide HSR))) (owns_keptX (owns_apart (unhide ON).kn (unhide ON).sent (unhide HK1)) (unhide HK2) (by simp)) (by omega) (by have h7 := (unhide ON).kn.k.size; have h8 := (unhide HK1).size; have h9 := (unhide HK2).size; omega) ?_
                     intro sv' V9 hO9 g9
                     obtain ⟨so9, sc9, rfl⟩ := owns_slN hO9
                     replace ON := hide ((unhide ON).put ⟨(S.length : Int) + 1, l.fr, l.to, u1, l.bs⟩ ⟨(S.length : Int) + 1, s.fr, s.to, s.v, s.bs⟩ (unhide HN1) (unhide HK1) (unhide HV1) rfl rfl (unhide HW).2.1 (unhide HW).2.2.1 (unhide HW).2.2.2 (unhide HSR) (unhide HK2) g9 hO9)
                     clear hO9 g9 HN1 HK1 HV1 HK2 HG
                     refine Stp.go ?_))
                constructor
                go_wp2_with (
                  first
                  | (go_at_call 21
                     refine (len21 b mb _ _ _ (unhide ON).kn.nt).mono ?_
                     rintro e w' ⟨rfl, hw9⟩
                     obtain rfl := hw9.symm
                     clear hw9))
                go_roundw
                case rel => exact ⟨k + 1, gone, v1, _, _, by omega, by omega, by first | omega | (simp; omega), by first | rfl | go_num, by go_num, ON⟩
                case measure => simp [intOf]; omega
            · by_cases k2 : x.k = 2
              · cases hp : placeOf x.n L 0 with
                | none =>
                  have P18 := hide (fun W (h : Kn w W b mb v ⟨8, S.length, L⟩) => deliver_none b mb v ⟨8, S.length, L⟩ x.n W h.nt hp)
                  clear hp
                  go_wp2_with (
                    first
                    | (refine wpLoadA row36 (by rfl) (.tmp 41) (by rfl) h (off + k * 5) (by kernel_rfl) x.C rfl (unhide HR) ?_
                       refine Stp.go ?_))
                  constructor
                  go_wp2_with (
                    first
                    | (refine wpNew row36 z36 rfl alloc36 8 (by rfl) (by rfl) (by rfl) (.tmp 42) (by rfl) (by rfl) (by rfl) x.C rfl x.one (by kernel_rfl) (by kernel_rfl) ?_
                       intro V1 p8 e8 B8 K8
                       have HX8 := hide B8
                       have hx0 := fits_cell B8 0 (.int .i64 x.k) rfl
                       have hx1 := fits_cell B8 1 (.int .i64 x.a) rfl
                       have hx2 := fits_cell B8 2 (.int .i64 x.b) rfl
                       have hx3 := fits_cell B8 3 (.int .i64 x.n) rfl
                       have hx4 := fits_cell B8 4 (.slice x.ao x.m x.c) rfl
                       replace ON := hide ((unhide ON).step K8)
                       clear e8 B8 K8 HR
                       refine Stp.go ?_))
                  constructor
                  go_wp2_with (
                    first
                    | (go_at_call 18
                       refine (unhide P18 _ (unhide ON).kn).mono ?_
                       clear hx0 hx1 hx2 hx3 hx4
                       rintro e V2 ⟨rfl, hk2⟩
                       replace ON := hide ((unhide ON).step hk2)
                       replace HX8 := hide ((unhide HX8).kept hk2 (by simp))
                       have hx0 := fits_cell (unhide HX8) 0 (.int .i64 x.k) rfl
                       have hx1 := fits_cell (unhide HX8) 1 (.int .i64 x.a) rfl
                       have hx2 := fits_cell (unhide HX8) 2 (.int .i64 x.b) rfl
                       have hx3 := fits_cell (unhide HX8) 3 (.int .i64 x.n) rfl
                       have hx4 := fits_cell (unhide HX8) 4 (.slice x.ao x.m x.c) rfl
                       clear hk2
                       refine Stp.go ?_))
                  constructor
                  go_wp2_with (
                    first
                    | (refine wpNew row47 zL rfl alloc47 14 (by rfl) (by rfl) (by rfl) (.tmp 124) (by rfl) (by rfl) (by rfl) (zL) rfl (zL_one) (by kernel_rfl) (by kernel_rfl) ?_
                       intro V3 p14 e3 B3 K3
                       have HB14 := hide B3
                       replace ON := hide ((unhide ON).step K3)
                       replace HX8 := hide ((unhide HX8).kept K3 (by simp))
                       skip
                       clear hx0 hx1 hx2 hx3 hx4 e3 B3 K3
                       have hx0 := fits_cell (unhide HX8) 0 (.int .i64 x.k) rfl
                       have hx1 := fits_cell (unhide HX8) 1 (.int .i64 x.a) rfl
                       have hx2 := fits_cell (unhide HX8) 2 (.int .i64 x.b) rfl
                       have hx3 := fits_cell (unhide HX8) 3 (.int .i64 x.n) rfl
                       have hx4 := fits_cell (unhide HX8) 4 (.slice x.ao x.m x.c) rfl
                       refine Stp.go ?_))
                  constructor
                  go_wp2_with (
                    first
                    | (go_at_call 9
                       refine (st_num9 _ _).mono ?_
                       rintro e w' ⟨rfl, hw9⟩
                       obtain rfl := hw9.symm
                       clear hw9))
                  go_roundw
                  case rel => exact ⟨k + 1, gone, v, L, S, by omega, by omega, by first | omega | (simp; omega), by first | rfl | go_num, by go_num, ON⟩
                  case measure => simp [intOf]; omega
                | some il =>
                  obtain ⟨i, l⟩ := il
                  obtain ⟨_, hLi, hln⟩ := placeOf_some hp
                  simp only [Nat.sub_zero] at hLi
                  obtain ⟨j, s, hj1, hSj, s1, s2, s3, s4⟩ := (unhide ON).was l (look_mem hp)
                  have hxe : x.n = (j : Int) + 1 := by rw [← hln, hj1]
                  have hjS : j < S.length := (List.getElem?_eq_some_iff.1 hSj).1
                  obtain ⟨g, hso, _⟩ := cellsL_at (unhide ON).sent hSj
                  subst hso
                  have HXE := hide hxe
                  have hjI : (j : Int) + 1 < (S.length : Int) + 1 := by omega
                  have hj0 : (1 : Int) ≤ (j : Int) + 1 := by omega
                  have hj2 : (j : Int) < S.length := by omega
                  have HSJ := hide hSj
                  have HSR := hide ((unhide ON).row s (List.mem_of_getElem? hSj))
                  have HW := hide (And.intro s1 (And.intro s2 (And.intro s3 s4)))
                  have HNUM : Hid (l.num = (j : Int) + 1) := hj1
                  have hiL : i < L.length := (List.getElem?_eq_some_iff.1 hLi).1
                  obtain ⟨L', hL'⟩ : ∃ L', L.eraseIdx i = L' := ⟨_, rfl⟩
                  have HL' := hide hL'
                  have hq2 : ((L'.length : Int) != (S.length : Int) - (gone + 1)) = false := by have h1 := unhide HCN; have h2 : L'.length = L.length - 1 := by rw [← hL']; exact List.length_eraseIdx_of_lt hiL
                                                                                                simp; omega
                  have P18 := hide (fun W (h : Kn w W b mb v ⟨8, S.length, L⟩) => deliver_yes b mb v ⟨8, S.length, L⟩ x.n W h.nt i l hp)
                  have P18' := hide (fun W v' (h : Kn w W b mb v' ⟨8, S.length, L'⟩) => deliver_none b mb v' ⟨8, S.length, L'⟩ x.n W h.nt (by rw [← unhide HL']; exact place_erase (unhide ON).kn.nt.rise hp))
                  rw [hxe] at P18 P18'
                  have HIL := hide hiL
                  have HLN := hide hln
                  have hneq : ((l.num : Int) != (j : Int) + 1) = false := by rw [hj1]; simp
                  clear hp hLi hln hj1 hSj s1 s2 s3 s4 hxe hxn hL' hiL
                  go_wp2_with (
                    first
                    | (refine wpLoadA row36 (by rfl) (.tmp 41) (by rfl) h (off + k * 5) (by kernel_rfl) x.C rfl (unhide HR) ?_
                       refine Stp.go ?_))
                  constructor
                  go_wp2_with (
                    first
                    | (refine wpNew row36 z36 rfl alloc36 8 (by rfl) (by rfl) (by rfl) (.tmp 42) (by rfl) (by rfl) (by rfl) x.C rfl x.one (by kernel_rfl) (by kernel_rfl) ?_
                       intro V1 p8 e8 B8 K8
                       have HX8 := hide B8
                       have hx0 := fits_cell B8 0 (.int .i64 x.k) rfl
                       have hx1 := fits_cell B8 1 (.int .i64 x.a) rfl
                       have hx2 := fits_cell B8 2 (.int .i64 x.b) rfl
                       have hx3 := fits_cell B8 3 (.int .i64 ((j : Int) + 1)) (by rw [← unhide HXE]; rfl)
                       have hx4 := fits_cell B8 4 (.slice x.ao x.m x.c) rfl
                       replace ON := hide ((unhide ON).step K8)
                       clear e8 B8 K8 HR
                       refine Stp.go ?_))
                  constructor
                  go_wp2_with (
                    first
                    | (go_at_call 18
                       refine (unhide P18 _ (unhide ON).kn).mono ?_
                       clear hx0 hx1 hx2 hx3 hx4
                       rintro e V2 ⟨v1, u1, rfl, hn, hbu, hk2, hv⟩
                       replace HX8 := hide ((unhide HX8).kept hk2 ((unhide ON).kn.apart (unhide HX8) (by decide) (by decide)))
                       replace ON := hide ((unhide ON).del i (unhide HIL) hn hk2 hv)
                       rw [unhide HL'] at ON
                       have HBU := hide hbu
                       have hx0 := fits_cell (unhide HX8) 0 (.int .i64 x.k) rfl
                       have hx1 := fits_cell (unhide HX8) 1 (.int .i64 x.a) rfl
                       have hx2 := fits_cell (unhide HX8) 2 (.int .i64 x.b) rfl
                       have hx3 := fits_cell (unhide HX8) 3 (.int .i64 ((j : Int) + 1)) (by rw [← unhide HXE]; rfl)
                       have hx4 := fits_cell (unhide HX8) 4 (.slice x.ao x.m x.c) rfl
                       clear hn hbu hk2 hv
                       refine Stp.go ?_))
                  constructor
                  go_wp2_with (
                    first
                    | (refine wpNew row47 zL rfl alloc47 14 (by rfl) (by rfl) (by rfl) (.tmp 124) (by rfl) (by rfl) (by rfl) (l.D u1) rfl (D_one (unhide HBU).one) (by kernel_rfl) (by kernel_rfl) ?_
                       intro V3 p14 e3 B3 K3
                       have HB14 := hide B3
                       replace ON := hide ((unhide ON).step K3)
                       replace HX8 := hide ((unhide HX8).kept K3 (by simp))
                       replace HBU := hide ((unhide HBU).kept K3 (by simp))
                       clear hx0 hx1 hx2 hx3 hx4 e3 B3 K3
                       have hx0 := fits_cell (unhide HX8) 0 (.int .i64 x.k) rfl
                       have hx1 := fits_cell (unhide HX8) 1 (.int .i64 x.a) rfl
                       have hx2 := fits_cell (unhide HX8) 2 (.int .i64 x.b) rfl
                       have hx3 := fits_cell (unhide HX8) 3 (.int .i64 ((j : Int) + 1)) (by rw [← unhide HXE]; rfl)
                       have hx4 := fits_cell (unhide HX8) 4 (.slice x.ao x.m x.c) rfl
                       refine Stp.go ?_))
                  constructor
                  go_wp2_with (
                    first
                    | (go_at_call 9
                       refine (st_num9 _ _).mono ?_
                       rintro e w' ⟨rfl, hw9⟩
                       obtain rfl := hw9.symm
                       clear hw9))
                  refine wp_region_any mixed (wpAny_tq 16 rfl (by kernel_rfl) [some (.pointer (some ⟨p14, 0, none⟩)), some (.int .i64 ((j : Int) + 1)), some (.pointer (some ⟨p8, 3, none⟩)), some (.int .i64 ((j : Int) + 1)), some (.bool false), some (.bool false), some (aggV (l.D u1)), some (.slice (some ⟨g, 0, none⟩) S.length sc), some (.pointer (some ⟨p14, 0, none⟩)), some (.int .i64 ((j : Int) + 1)), some (.int .i64 j), some (.pointer (some ⟨g, j * 4, none⟩)), some (aggV s.C), some (.bool true), some (.bool false), some (.bool false)] rfl (by kernel_rfl) (by kernel_rfl) ?_ ?_)
                  · intro i o' hi hsk ho a' w2 hout hin hk2
                    replace hk2 : Kept [] V3 w2 := ⟨hk2.os, hk2.tape, hk2.output, hk2.size, hk2.block⟩
                    match i, ho, hsk with
                    | 0, ho, hsk =>
                      obtain rfl := Option.some.inj ho
                      exact o_fld47_0 (.tmp 14) rfl p14 ((hout 14 (by kernel_rfl)).trans rfl) ⟨_, rfl, tq_is _ _ _ _ rfl, Kept.refl _ _, fun _ _ _ _ _ => trivial⟩
                    | 1, ho, hsk =>
                      obtain rfl := Option.some.inj ho
                      have e0 : a'.eval (.tmp 129) = .pointer (some ⟨p14, 0, none⟩) := is_tq (hin 0 129 (by kernel_rfl) (by kernel_rfl)) rfl
                      exact o_load2 (.tmp 129) rfl ⟨p14, 0, none⟩ _ e0 (by rw [← unhide HNUM]; exact fits_cell ((unhide HB14).kept hk2 (by simp)) 0 (.int .i64 l.num) rfl) ⟨_, rfl, tq_is _ _ _ _ rfl, Kept.refl _ _, fun _ _ _ _ _ => trivial⟩
                    | 2, ho, hsk =>
                      obtain rfl := Option.some.inj ho
                      exact o_fld36_3 (.tmp 8) rfl p8 ((hout 8 (by kernel_rfl)).trans rfl) ⟨_, rfl, tq_is _ _ _ _ rfl, Kept.refl _ _, fun _ _ _ _ _ => trivial⟩
                    | 3, ho, hsk =>
                      obtain rfl := Option.some.inj ho
                      have e0 : a'.eval (.tmp 131) = .pointer (some ⟨p8, 3, none⟩) := is_tq (hin 2 131 (by kernel_rfl) (by kernel_rfl)) rfl
                      exact o_load2 (.tmp 131) rfl ⟨p8, 3, none⟩ _ e0 (fits_cell ((unhide HX8).kept hk2 (by simp)) 3 _ (by rw [← unhide HXE]; rfl)) ⟨_, rfl, tq_is _ _ _ _ rfl, Kept.refl _ _, fun _ _ _ _ _ => trivial⟩
                    | 4, ho, hsk =>
                      obtain rfl := Option.some.inj ho
                      have e0 : a'.eval (.tmp 130) = .int .i64 ((j : Int) + 1) := is_tq (hin 1 130 (by kernel_rfl) (by kernel_rfl)) rfl
                      have e1 : a'.eval (.tmp 132) = .int .i64 ((j : Int) + 1) := is_tq (hin 3 132 (by kernel_rfl) (by kernel_rfl)) rfl
                      exact o_neq2s (.tmp 130) (.tmp 132) rfl _ e0 e1 ⟨_, rfl, tq_is _ _ _ _ rfl, Kept.refl _ _, fun _ _ _ _ _ => trivial⟩
                    | 5, ho, hsk =>
                      obtain rfl := Option.some.inj ho
                      have e0 : a'.eval (.tmp 133) = .bool false := is_tq (hin 4 133 (by kernel_rfl) (by kernel_rfl)) rfl
                      exact wp_move (.tmp 133) rfl _ e0 ⟨_, rfl, tq_is _ _ _ _ rfl, Kept.refl _ _, fun _ _ _ _ _ => trivial⟩
                    | 6, ho, hsk =>
                      obtain rfl := Option.some.inj ho
                      exact wp_loadA row47 (.tmp 14) rfl p14 0 ((hout 14 (by kernel_rfl)).trans rfl) (l.D u1) rfl ((unhide HB14).kept hk2 (by simp)).range ⟨_, rfl, tq_is _ _ _ _ rfl, Kept.refl _ _, fun _ _ _ _ _ => trivial⟩
                    | 7, ho, hsk =>
                      obtain rfl := Option.some.inj ho
                      exact wp_move (.tmp 5) rfl _ ((hout 5 (by kernel_rfl)).trans rfl) ⟨_, rfl, tq_is _ _ _ _ rfl, Kept.refl _ _, fun _ _ _ _ _ => trivial⟩
                    | 8, ho, hsk =>
                      obtain rfl := Option.some.inj ho
                      exact o_fld47_0 (.tmp 14) rfl p14 ((hout 14 (by kernel_rfl)).trans rfl) ⟨_, rfl, tq_is _ _ _ _ rfl, Kept.refl _ _, fun _ _ _ _ _ => trivial⟩
                    | 9, ho, hsk =>
                      obtain rfl := Option.some.inj ho
                      have e0 : a'.eval (.tmp 137) = .pointer (some ⟨p14, 0, none⟩) := is_tq (hin 8 137 (by kernel_rfl) (by kernel_rfl)) rfl
                      exact o_load2 (.tmp 137) rfl ⟨p14, 0, none⟩ _ e0 (by rw [← unhide HNUM]; exact fits_cell ((unhide HB14).kept hk2 (by simp)) 0 (.int .i64 l.num) rfl) ⟨_, rfl, tq_is _ _ _ _ rfl, Kept.refl _ _, fun _ _ _ _ _ => trivial⟩
                    | 10, ho, hsk =>
                      obtain rfl := Option.some.inj ho
                      have e0 : a'.eval (.tmp 138) = .int .i64 ((j : Int) + 1) := is_tq (hin 9 138 (by kernel_rfl) (by kernel_rfl)) rfl
                      exact o_dec2 (.tmp 138) rfl j (by omega) e0 ⟨_, rfl, tq_is _ _ _ _ rfl, Kept.refl _ _, fun _ _ _ _ _ => trivial⟩
                    | 11, ho, hsk =>
                      obtain rfl := Option.some.inj ho
                      have e0 : a'.eval (.tmp 136) = .slice (some ⟨g, 0, none⟩) S.length sc := is_tq (hin 7 136 (by kernel_rfl) (by kernel_rfl)) rfl
                      have e1 : a'.eval (.tmp 139) = .int .i64 j := is_tq (hin 10 139 (by kernel_rfl) (by kernel_rfl)) rfl
                      exact o_idx43 (.tmp 136) (.tmp 139) rfl g S.length sc j hjS e0 e1 ⟨_, rfl, tq_is _ _ _ _ rfl, Kept.refl _ _, fun _ _ _ _ _ => trivial⟩
                    | 12, ho, hsk =>
                      obtain rfl := Option.some.inj ho
                      have e0 : a'.eval (.tmp 140) = .pointer (some ⟨g, j * 4, none⟩) := is_tq (hin 11 140 (by kernel_rfl) (by kernel_rfl)) rfl
                      exact wp_loadA row47 (.tmp 140) rfl g (j * 4) e0 s.C rfl (cellsL_rg (owns_keptX (unhide ON).sent hk2 (by simp)) (unhide HSJ)) ⟨_, rfl, tq_is _ _ _ _ rfl, Kept.refl _ _, fun _ _ _ _ _ => trivial⟩
                    | 13, ho, hsk =>
                      obtain rfl := Option.some.inj ho
                      have e0 : a'.eval (.tmp 135) = aggV (l.D u1) := is_tq (hin 6 135 (by kernel_rfl) (by kernel_rfl)) rfl
                      have e1 : a'.eval (.tmp 141) = aggV s.C := is_tq (hin 12 141 (by kernel_rfl) (by kernel_rfl)) rfl
                      refine wp_callF 19 _ _ rfl #[aggV (l.D u1), aggV s.C] (by simp [e0, e1]) (cg19 _ _) ((same_was (unhide HW) ((unhide HBU).row.kept hk2) ((unhide HSR).kept ((unhide ON).kn.k.trans hk2))).mono ?_)
                      rintro e w3 ⟨rfl, hk3⟩
                      exact ⟨_, rfl, _, rfl, tq_is _ _ _ _ rfl, hk3, fun _ _ _ _ _ => trivial⟩
                    | 14, ho, hsk =>
                      obtain rfl := Option.some.inj ho
                      have e0 : a'.eval (.tmp 142) = .bool true := is_tq (hin 13 142 (by kernel_rfl) (by kernel_rfl)) rfl
                      exact o_not (.tmp 142) rfl true e0 ⟨_, rfl, tq_is _ _ _ _ rfl, Kept.refl _ _, fun _ _ _ _ _ => trivial⟩
                    | 15, ho, hsk =>
                      obtain rfl := Option.some.inj ho
                      have e0 : a'.eval (.tmp 134) = .bool false := is_tq (hin 5 134 (by kernel_rfl) (by kernel_rfl)) rfl
                      have e1 : a'.eval (.tmp 143) = .bool false := is_tq (hin 14 143 (by kernel_rfl) (by kernel_rfl)) rfl
                      exact o_pickOrF (.tmp 134) (.tmp 143) rfl e0 e1 ⟨_, rfl, tq_is _ _ _ _ rfl, Kept.refl _ _, fun _ _ _ _ _ => trivial⟩
                  intro w9 hk9
                  replace hk9 : Kept [] V3 w9 := ⟨hk9.os, hk9.tape, hk9.output, hk9.size, hk9.block⟩
                  simp only [valsQ, List.map_cons, List.map_nil, Option.getD_some, List.take_succ_cons, List.take_zero, putAll, Act.put, List.setIfInBounds_toArray, List.set_cons_succ, List.set_cons_zero]
                  refine wpAny_done (by kernel_rfl) ?_ _
                  replace ON := hide ((unhide ON).step hk9)
                  replace HX8 := hide ((unhide HX8).kept hk9 (by simp))
                  clear hx0 hx1 hx2 hx3 hx4 hk9
                  have hx0 := fits_cell (unhide HX8) 0 (.int .i64 x.k) rfl
                  have hx1 := fits_cell (unhide HX8) 1 (.int .i64 x.a) rfl
                  have hx2 := fits_cell (unhide HX8) 2 (.int .i64 x.b) rfl
                  have hx3 := fits_cell (unhide HX8) 3 (.int .i64 ((j : Int) + 1)) (by rw [← unhide HXE]; rfl)
                  have hx4 := fits_cell (unhide HX8) 4 (.slice x.ao x.m x.c) rfl
                  go_wp2_with (
                    first
                    | (go_at_call 18
                       refine (unhide P18' _ _ (unhide ON).kn).mono ?_
                       clear hx0 hx1 hx2 hx3 hx4
                       rintro e V5 ⟨rfl, hk2⟩
                       replace ON := hide ((unhide ON).step hk2)
                       replace HX8 := hide ((unhide HX8).kept hk2 (by simp))
                       have hx0 := fits_cell (unhide HX8) 0 (.int .i64 x.k) rfl
                       have hx1 := fits_cell (unhide HX8) 1 (.int .i64 x.a) rfl
                       have hx2 := fits_cell (unhide HX8) 2 (.int .i64 x.b) rfl
                       have hx3 := fits_cell (unhide HX8) 3 (.int .i64 ((j : Int) + 1)) (by rw [← unhide HXE]; rfl)
                       have hx4 := fits_cell (unhide HX8) 4 (.slice x.ao x.m x.c) rfl
                       clear hk2
                       refine Stp.go ?_))
                  constructor
                  go_wp2_with (
                    first
                    | (refine wpNew row47 zL rfl alloc47 16 (by rfl) (by rfl) (by rfl) (.tmp 150) (by rfl) (by rfl) (by rfl) (zL) rfl (zL_one) (by kernel_rfl) (by kernel_rfl) ?_
                       intro V6 p16 e6 B6 K6
                       have HB16 := hide B6
                       replace ON := hide ((unhide ON).step K6)
                       replace HX8 := hide ((unhide HX8).kept K6 (by simp))
                       skip
                       clear hx0 hx1 hx2 hx3 hx4 e6 B6 K6
                       have hx0 := fits_cell (unhide HX8) 0 (.int .i64 x.k) rfl
                       have hx1 := fits_cell (unhide HX8) 1 (.int .i64 x.a) rfl
                       have hx2 := fits_cell (unhide HX8) 2 (.int .i64 x.b) rfl
                       have hx3 := fits_cell (unhide HX8) 3 (.int .i64 ((j : Int) + 1)) (by rw [← unhide HXE]; rfl)
                       have hx4 := fits_cell (unhide HX8) 4 (.slice x.ao x.m x.c) rfl
                       refine Stp.go ?_))
                  constructor
                  go_wp2_with (
                    first
                    | (go_at_call 9
                       refine (st_num9 _ _).mono ?_
                       rintro e w' ⟨rfl, hw9⟩
                       obtain rfl := hw9.symm
                       clear hw9
                       refine Stp.go ?_))
                  constructor
                  go_wp2_with (
                    first
                    | (go_at_call 21
                       refine (len21 b mb _ _ _ (unhide ON).kn.nt).mono ?_
                       rintro e w' ⟨rfl, hw9⟩
                       obtain rfl := hw9.symm
                       clear hw9))
                  go_roundw
                  case rel => exact ⟨k + 1, gone + 1, v1, L', S, by omega, by omega, by first | omega | (simp; omega), by first | rfl | go_num, by go_num, ON⟩
                  case measure => simp [intOf]; omega
              · by_cases k3 : x.k = 3
                · cases hp : placeOf x.n L 0 with
                  | none =>
                    have P20 := hide (fun W (h : Kn w W b mb v ⟨8, S.length, L⟩) => drop_none b mb v ⟨8, S.length, L⟩ x.n W h.nt hp)
                    clear hp
                    go_wp2_with (
                      first
                      | (refine wpLoadA row36 (by rfl) (.tmp 41) (by rfl) h (off + k * 5) (by kernel_rfl) x.C rfl (unhide HR) ?_
                         refine Stp.go ?_))
                    constructor
                    go_wp2_with (
                      first
                      | (refine wpNew row36 z36 rfl alloc36 8 (by rfl) (by rfl) (by rfl) (.tmp 42) (by rfl) (by rfl) (by rfl) x.C rfl x.one (by kernel_rfl) (by kernel_rfl) ?_
                         intro V1 p8 e8 B8 K8
                         have HX8 := hide B8
                         have hx0 := fits_cell B8 0 (.int .i64 x.k) rfl
                         have hx1 := fits_cell B8 1 (.int .i64 x.a) rfl
                         have hx2 := fits_cell B8 2 (.int .i64 x.b) rfl
                         have hx3 := fits_cell B8 3 (.int .i64 x.n) rfl
                         have hx4 := fits_cell B8 4 (.slice x.ao x.m x.c) rfl
                         replace ON := hide ((unhide ON).step K8)
                         clear e8 B8 K8 HR
                         refine Stp.go ?_))
                    constructor
                    go_wp2_with (
                      first
                      | (go_at_call 20
                         refine (unhide P20 _ (unhide ON).kn).mono ?_
                         clear hx0 hx1 hx2 hx3 hx4
                         rintro e V2 ⟨rfl, hk2⟩
                         replace ON := hide ((unhide ON).step hk2)
                         replace HX8 := hide ((unhide HX8).kept hk2 (by simp))
                         have hx0 := fits_cell (unhide HX8) 0 (.int .i64 x.k) rfl
                         have hx1 := fits_cell (unhide HX8) 1 (.int .i64 x.a) rfl
                         have hx2 := fits_cell (unhide HX8) 2 (.int .i64 x.b) rfl
                         have hx3 := fits_cell (unhide HX8) 3 (.int .i64 x.n) rfl
                         have hx4 := fits_cell (unhide HX8) 4 (.slice x.ao x.m x.c) rfl
                         clear hk2
                         refine Stp.go ?_))
                    constructor
                    go_wp2_with (
                      first
                      | (go_at_call 9
                         refine (st_num9 _ _).mono ?_
                         rintro e w' ⟨rfl, hw9⟩
                         obtain rfl := hw9.symm
                         clear hw9
                         refine Stp.go ?_))
                    constructor
                    go_wp2_with (
                      first
                      | (go_at_call 21
                         refine (len21 b mb _ _ _ (unhide ON).kn.nt).mono ?_
                         rintro e w' ⟨rfl, hw9⟩
                         obtain rfl := hw9.symm
                         clear hw9))
                    go_roundw
                    case rel => exact ⟨k + 1, gone, v, L, S, by omega, by omega, by first | omega | (simp; omega), by first | rfl | go_num, by go_num, ON⟩
                    case measure => simp [intOf]; omega
                  | some il =>
                    obtain ⟨i, l⟩ := il
                    obtain ⟨_, hLi, hln⟩ := placeOf_some hp
                    simp only [Nat.sub_zero] at hLi
                    have hiL : i < L.length := (List.getElem?_eq_some_iff.1 hLi).1
                    obtain ⟨L', hL'⟩ : ∃ L', L.eraseIdx i = L' := ⟨_, rfl⟩
                    have HL' := hide hL'
                    have hq2 : ((L'.length : Int) != (S.length : Int) - (gone + 1)) = false := by have h1 := unhide HCN; have h2 : L'.length = L.length - 1 := by rw [← hL']; exact List.length_eraseIdx_of_lt hiL
                                                                                                  simp; omega
                    have P20 := hide (fun W (h : Kn w W b mb v ⟨8, S.length, L⟩) => drop_yes b mb v ⟨8, S.length, L⟩ x.n W h.nt i l hp)
                    have HIL := hide hiL
                    clear hp hLi hln hL' hiL
                    go_wp2_with (
                      first
                      | (refine wpLoadA row36 (by rfl) (.tmp 41) (by rfl) h (off + k * 5) (by kernel_rfl) x.C rfl (unhide HR) ?_
                         refine Stp.go ?_))
                    constructor
                    go_wp2_with (
                      first
                      | (refine wpNew row36 z36 rfl alloc36 8 (by rfl) (by rfl) (by rfl) (.tmp 42) (by rfl) (by rfl) (by rfl) x.C rfl x.one (by kernel_rfl) (by kernel_rfl) ?_
                         intro V1 p8 e8 B8 K8
                         have HX8 := hide B8
                         have hx0 := fits_cell B8 0 (.int .i64 x.k) rfl
                         have hx1 := fits_cell B8 1 (.int .i64 x.a) rfl
                         have hx2 := fits_cell B8 2 (.int .i64 x.b) rfl
                         have hx3 := fits_cell B8 3 (.int .i64 x.n) rfl
                         have hx4 := fits_cell B8 4 (.slice x.ao x.m x.c) rfl
                         replace ON := hide ((unhide ON).step K8)
                         clear e8 B8 K8 HR
                         refine Stp.go ?_))
                    constructor
                    go_wp2_with (
                      first
                      | (go_at_call 20
                         refine (unhide P20 _ (unhide ON).kn).mono ?_
                         clear hx0 hx1 hx2 hx3 hx4
                         rintro e V2 ⟨v1, rfl, hn, hk2, hv⟩
                         replace HX8 := hide ((unhide HX8).kept hk2 ((unhide ON).kn.apart (unhide HX8) (by decide) (by decide)))
                         replace ON := hide ((unhide ON).del i (unhide HIL) hn hk2 hv)
                         rw [unhide HL'] at ON
                         have hx0 := fits_cell (unhide HX8) 0 (.int .i64 x.k) rfl
                         have hx1 := fits_cell (unhide HX8) 1 (.int .i64 x.a) rfl
                         have hx2 := fits_cell (unhide HX8) 2 (.int .i64 x.b) rfl
                         have hx3 := fits_cell (unhide HX8) 3 (.int .i64 x.n) rfl
                         have hx4 := fits_cell (unhide HX8) 4 (.slice x.ao x.m x.c) rfl
                         clear hn hk2 hv
                         refine Stp.go ?_))
                    constructor
                    go_wp2_with (
                      first
                      | (go_at_call 9
                         refine (st_num9 _ _).mono ?_
                         rintro e w' ⟨rfl, hw9⟩
                         obtain rfl := hw9.symm
                         clear hw9
                         refine Stp.go ?_))
                    constructor
                    go_wp2_with (
                      first
                      | (go_at_call 21
                         refine (len21 b mb _ _ _ (unhide ON).kn.nt).mono ?_
                         rintro e w' ⟨rfl, hw9⟩
                         obtain rfl := hw9.symm
                         clear hw9))
                    go_roundw
                    case rel => exact ⟨k + 1, gone + 1, v1, L', S, by omega, by omega, by first | omega | (simp; omega), by first | rfl | go_num, by go_num, ON⟩
                    case measure => simp [intOf]; omega
                · skip
                  go_wp2_with (
                    first
                    | (refine wpLoadA row36 (by rfl) (.tmp 41) (by rfl) h (off + k * 5) (by kernel_rfl) x.C rfl (unhide HR) ?_
                       refine Stp.go ?_))
                  constructor
                  go_wp2_with (
                    first
                    | (refine wpNew row36 z36 rfl alloc36 8 (by rfl) (by rfl) (by rfl) (.tmp 42) (by rfl) (by rfl) (by rfl) x.C rfl x.one (by kernel_rfl) (by kernel_rfl) ?_
                       intro V1 p8 e8 B8 K8
                       have HX8 := hide B8
                       have hx0 := fits_cell B8 0 (.int .i64 x.k) rfl
                       have hx1 := fits_cell B8 1 (.int .i64 x.a) rfl
                       have hx2 := fits_cell B8 2 (.int .i64 x.b) rfl
                       have hx3 := fits_cell B8 3 (.int .i64 x.n) rfl
                       have hx4 := fits_cell B8 4 (.slice x.ao x.m x.c) rfl
                       replace ON := hide ((unhide ON).step K8)
                       clear e8 B8 K8 HR
                       refine Stp.go ?_))
                  constructor
                  go_wp2_with (
                    first
                    | (go_at_call 21
                       refine (len21 b mb _ _ _ (unhide ON).kn.nt).mono ?_
                       rintro e w' ⟨rfl, hw9⟩
                       obtain rfl := hw9.symm
                       clear hw9))
                  go_roundw
                  case rel => exact ⟨k + 1, gone, v, L, S, by omega, by omega, by first | omega | (simp; omega), by first | rfl | go_num, by go_num, ON⟩
                  case measure => simp [intOf]; omega
        · go_wp2_with fail
          go_ret
          exact ⟨rfl, (unhide ON).kn.k⟩
      · go_wp2_with fail
        go_ret
        exact ⟨rfl, (unhide ON).kn.k⟩

end Go.Proofs.Ytpcggcicpojdoaa

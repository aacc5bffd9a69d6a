/-
  The walks of the law's version, of Whole and of Better; laws for what a function makes anew.
-/
import Derived.Test.YtnflcajidgbbbaaDoorGet
namespace Go.Proofs.YtnflcajidgbbbaaDoor
open Go.RowKit

/-- A variable is made and filled. -/
theorem wpNew {ops : Array Oper} {rest : List Oper} {o1 o2 : Oper} {a : Act} {w : World} {Q : Exit → Act → World → Prop} {T n : Nat} (hT : Row T n) (zv : List Value) (hz : zv.length = n) (hr : ∀ w : World, (Instr.alloc T true (.tuple #[])).run Tryd.prog w = .ok (P0 w.heap.size) (w.alloc (.cells zv.toArray T)))
    (d : Nat) (hd : o1.dst = some d) (hg1 : o1.guard = none) (ho1 : o1.op = .alloc T) (y : Operand) (hg2 : o2.guard = none) (ho2 : o2.op = .store T (.tmp d) y) (hd2 : o2.dst = none)
    (vs : List Value) (hl : vs.length = n) (h1 : ∀ v ∈ vs, v.oneCell' = true) (hx : (a.put (some d) (P0 w.heap.size)).eval (.tmp d) = P0 w.heap.size) (hy : (a.put (some d) (P0 w.heap.size)).eval y = aggV vs)
    (h : ∀ W b, b = w.heap.size → Blk W b T vs → Kept [] w W → wpList Tryd.prog ops Q rest (a.put (some d) (P0 b)) W) : wpList Tryd.prog ops Q (o1 :: o2 :: rest) a w := by
  refine wpAllocA zv hr hg1 ho1 ?_
  rw [hd]
  have hb : Blk (w.alloc (.cells zv.toArray T)) w.heap.size T zv := Blk.new w T zv
  refine wpStoreA hT hg2 (.tmp d) y ho2 w.heap.size 0 vs hx hy hl h1 (hb.there (by omega)) ?_
  rw [hd2]
  exact h _ _ rfl (hb.put (by omega)) (((Kept.refl _ _).alloc _).setCells _ _ (by omega))

theorem res23 (w : World) (z : Nat) (vs : List Value) (tmps : Array Value) (h4 : tmps[4]?.getD undef = P0 z) (hl : vs.length = 97) (hb : Blk w z 25 vs) : (results Tryd.f23 tmps).run Tryd.prog w = .ok (aggV vs) w := by
  have := loadV row25 hl hb
  simp [results, Tryd.results23, h4, this, asAddr]

set_option maxHeartbeats 1000000 in
set_option maxRecDepth 100000 in
theorem version23 (n c : Int) (w : World) : Calls Tryd.prog 23 #[.int .i64 n, .int .u8 c] w fun e w' => e = .returned (aggV (verC n (c :: zs 95))) ∧ Kept [] w w' := by
  have hl : (verC n (c :: zs 95)).length = 97 := by simp [verC, u8s_len, zs]
  go_enter Tryd.func23, Tryd.ntmps23
  go_wp2_with (
    first
    | (refine wpBuildP rfl _ rfl #[(0, .int .i64 n)] (by simp only [List.map_toArray, List.map_cons, List.map_nil]; rfl) (verC n (zs 96)) (build25n _ _) ?_)
    | (refine wpNew row25 (verC 0 (zs 96)) verC_zero zero25 5 rfl rfl rfl (.tmp 7) rfl rfl rfl (verC n (zs 96)) (by simp [verC, u8s_len, zs]) (verC_one _ _) rfl rfl ?_
       intro W2 b2 hb2 B2 K2
       have A1 : Hid (Blk W2 w.heap.size 25 (verC 0 (zs 96))) := (unhide A0).kept K2 (by simp)
       have KK : Hid (Kept [] w W2) := (unhide K0).trans K2
       have hne : b2 ≠ w.heap.size := by have := (unhide A0).lt; omega
       have hwl : w.heap.size ≤ b2 := by have := (unhide K0).size; omega
       have q := fits_cell B2 1 (.int .u8 0) rfl
       have z := B2.frozen 1
       have BB := hide B2
       clear A0 K0 K2 B2 hb2)
    | (refine wpAllocV (verC 0 (zs 96)) zero25 4 rfl rfl rfl ?_
       intro W1 eW
       have A0 : Hid (Blk W1 w.heap.size 25 (verC 0 (zs 96))) := by rw [eW]; exact Blk.new' rfl
       have K0 : Hid (Kept [] w W1) := by rw [eW]; exact (Kept.refl _ _).alloc _
       clear eW)
    | (refine wpLoadA row25 rfl (.tmp 5) rfl b2 0 rfl (verC n (c :: zs 95)) hl (Blk.range (T := 25) ?_) ?_
       · exact (unhide BB).set (i := 1) (.int .u8 c))
    | (refine wpStoreA row25 rfl (.tmp 4) (.tmp 11) rfl w.heap.size 0 (verC n (c :: zs 95)) rfl rfl hl (verC_one _ _) (Blk.there (T := 25) (us := verC 0 (zs 96)) ?_ (by rw [verC_zero]; omega)) ?_
       · exact (unhide A1).set_other (fun e => hne e.symm) _))
  have A2 := (unhide A1).set_other (b' := b2) (i := 1) (fun e => hne e.symm) (.int .u8 c)
  exact bodyPost_ret (res23 _ _ _ _ rfl hl (A2.put (by rw [verC_zero]; exact hl.symm))) rfl ⟨rfl, ((unhide KK).setCell (by simp; omega) _).setCells _ _ (by omega)⟩

set_option maxHeartbeats 1000000 in
set_option maxRecDepth 100000 in
theorem whole14 (p : Int) (a b : List Int) (ha : Byts 64 a) (hb : Byts 64 b) (w : World) : Calls Tryd.prog 14 #[.int .i64 p, aggV (u8s a), aggV (u8s b)] w fun e w' => e = .returned (.bool (decide ((getL p a b).2 = 0))) ∧ Kept [] w w' := by
  have hau : (u8s a).length = 64 := by rw [u8s_len, ha.len]
  have hbu : (u8s b).length = 64 := by rw [u8s_len, hb.len]
  have hvl : (verC (getL p a b).1.1 (getL p a b).1.2).length = 97 := verC_len (getL_byts ha hb).len
  go_enter Tryd.func14, Tryd.ntmps14
  have hW : ∃ W, W = (w.alloc (.cells (u8s a).toArray 27)).alloc (.cells (u8s b).toArray 27) := ⟨_, rfl⟩
  obtain ⟨W, eW⟩ := hW
  have b0 : Hid (Blk ((w.alloc (.cells (u8s a).toArray 27)).alloc (.cells (u8s b).toArray 27)) w.heap.size 27 (u8s a)) := (Blk.new' rfl).alloc _
  have b1 : Hid (Blk ((w.alloc (.cells (u8s a).toArray 27)).alloc (.cells (u8s b).toArray 27)) (w.heap.size + 1) 27 (u8s b)) := Blk.new' (by simp)
  have hk : Hid (Kept [] w ((w.alloc (.cells (u8s a).toArray 27)).alloc (.cells (u8s b).toArray 27))) := ((Kept.refl _ _).alloc _).alloc _
  have hg := hide (get12 p a b ha hb ((w.alloc (.cells (u8s a).toArray 27)).alloc (.cells (u8s b).toArray 27)))
  clear eW W
  go_wp2_with (
    first
    | (refine wpBoxA rfl (.tmp 1) rfl (u8s a) rfl ?_)
    | (refine wpBoxA rfl (.tmp 2) rfl (u8s b) rfl ?_)
    | (refine wpLoadA row27 rfl (.tmp 4) rfl w.heap.size 0 rfl (u8s a) hau (unhide b0).range ?_)
    | (refine wpLoadA row27 rfl (.tmp 5) rfl (w.heap.size + 1) 0 rfl (u8s b) hbu (unhide b1).range ?_)
    | (go_at_call 12
       refine (unhide hg).mono ?_
       rintro e w2 ⟨rfl, k2⟩
       have ck : Hid (Kept [] w w2) := (unhide hk).trans k2
       clear b0 b1 hk hg k2)
    | (refine wpNew row25 (verC 0 (zs 96)) verC_zero zero25 7 rfl rfl rfl (.tmp 14) rfl rfl rfl _ hvl (verC_one _ _) rfl rfl ?_
       intro W2 b2 hb2 B2 K2
       have KK : Hid (Kept [] w W2) := (unhide ck).trans K2
       clear B2 K2 hb2))
  go_ret
  exact ⟨ret_bool (by simp), unhide KK⟩

end Go.Proofs.YtnflcajidgbbbaaDoor

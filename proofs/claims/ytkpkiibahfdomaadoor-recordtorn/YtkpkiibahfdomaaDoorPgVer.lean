/-
  The walks of the law's version, of Whole and of Better; laws for what a function makes anew.
-/
import Derived.Test.YtkpkiibahfdomaaDoorPgGet
namespace Go.Proofs.YtkpkiibahfdomaaDoor.Pg
open Go.RowKit

/-- A variable is made and filled. -/
theorem wpNew {ops : Array Oper} {rest : List Oper} {o1 o2 : Oper} {a : Act} {w : World} {Q : Exit → Act → World → Prop} {T n : Nat} (hT : Row T n) (zv : List Value) (hz : zv.length = n) (hr : ∀ w : World, (Instr.alloc T true (.tuple #[])).run Tryd.prog w = .ok (P0 w.heap.size) (w.alloc (.cells zv.toArray T)))
    (d : Nat) (hd : o1.dst = some d) (hg1 : o1.guard = none) (ho1 : o1.op = .alloc T) (y : Operand) (hg2 : o2.guard = none) (ho2 : o2.op = .store T (.tmp d) y) (hd2 : o2.dst = none)
    (vs : List Value) (hl : vs.length = n) (h1 : ∀ v ∈ vs, v.oneCell' = true) (hx : (a.put (some d) (P0 w.heap.size)).eval (.tmp d) = P0 w.heap.size) (hy : (a.put (some d) (P0 w.heap.size)).eval y = aggV vs)
    (h : ∀ W b, b = w.heap.size → Blk W b T vs → Kept [] w W → wpList Tryd.prog ops Q rest (a.put (some d) (P0 b)) W) : wpList Tryd.prog ops Q (o1 :: o2 :: rest) a w := by
  refine wpAllocA zv hr hg1 ho1 ?_
  rw [hd]
  have hb : Blk (w.alloc (.cells zv.toArray T)) w.heap.size T zv := Blk.new w T zv
  refine wpStoreA hT hg2 (.tmp d) y ho2 w.heap.size 0 vs hx hy hl h1 (hb.there (by omega)) ?_
  rw [hd2]
  exact h _ _ rfl (hb.put (by omega)) (((Kept.refl _ _).alloc _).setCells _ _ (by omega))

set_option maxHeartbeats 1000000 in
set_option maxRecDepth 100000 in
theorem whole14 (p : Int) (a b : List Int) (ha : Byts 64 a) (hb : Byts 64 b) (w : World) : Calls Tryd.prog 28 #[.int .i64 p, aggV (u8s a), aggV (u8s b)] w fun e w' => e = .returned (.bool (decide ((getL p a b).2 = 0))) ∧ Kept [] w w' := by
  have hau : (u8s a).length = 64 := by rw [u8s_len, ha.len]
  have hbu : (u8s b).length = 64 := by rw [u8s_len, hb.len]
  have hvl : (verC (getL p a b).1.1 (getL p a b).1.2).length = 97 := verC_len (getL_byts ha hb).len
  go_enter Tryd.func28, Tryd.ntmps28
  have hW : ∃ W, W = (w.alloc (.cells (u8s a).toArray 29)).alloc (.cells (u8s b).toArray 29) := ⟨_, rfl⟩
  obtain ⟨W, eW⟩ := hW
  have b0 : Hid (Blk ((w.alloc (.cells (u8s a).toArray 29)).alloc (.cells (u8s b).toArray 29)) w.heap.size 29 (u8s a)) := (Blk.new' rfl).alloc _
  have b1 : Hid (Blk ((w.alloc (.cells (u8s a).toArray 29)).alloc (.cells (u8s b).toArray 29)) (w.heap.size + 1) 29 (u8s b)) := Blk.new' (by simp)
  have hk : Hid (Kept [] w ((w.alloc (.cells (u8s a).toArray 29)).alloc (.cells (u8s b).toArray 29))) := ((Kept.refl _ _).alloc _).alloc _
  have hg := hide (get12 p a b ha hb ((w.alloc (.cells (u8s a).toArray 29)).alloc (.cells (u8s b).toArray 29)))
  clear eW W
  go_wp2_with (
    first
    | (refine wpBoxA rfl (.tmp 1) rfl (u8s a) rfl ?_)
    | (refine wpBoxA rfl (.tmp 2) rfl (u8s b) rfl ?_)
    | (refine wpLoadA row29 rfl (.tmp 4) rfl w.heap.size 0 rfl (u8s a) hau (unhide b0).range ?_)
    | (refine wpLoadA row29 rfl (.tmp 5) rfl (w.heap.size + 1) 0 rfl (u8s b) hbu (unhide b1).range ?_)
    | (go_at_call 46
       refine (unhide hg).mono ?_
       rintro e w2 ⟨rfl, k2⟩
       have ck : Hid (Kept [] w w2) := (unhide hk).trans k2
       clear b0 b1 hk hg k2)
    | (refine wpNew row61 (verC 0 (zs 96)) verC_zero zero61 7 rfl rfl rfl (.tmp 14) rfl rfl rfl _ hvl (verC_one _ _) rfl rfl ?_
       intro W2 b2 hb2 B2 K2
       have KK : Hid (Kept [] w W2) := (unhide ck).trans K2
       clear B2 K2 hb2))
  go_ret
  exact ⟨ret_bool (by simp), unhide KK⟩

end Go.Proofs.YtkpkiibahfdomaaDoor.Pg

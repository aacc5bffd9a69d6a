import Derived.Test.YtbigongmlpoahaaUFo
namespace Go.Proofs.Ytbigongmlpoahaa
set_option maxHeartbeats 1000000
set_option maxRecDepth 100000
set_option linter.unusedSimpArgs false
open Go.RowKit
theorem idle17 (s:Lo) (ln:Value) (b:Nat) (w:World) (h:Blk w b 108 (s.C ln)):Calls Try.prog 54 #[P0 b] w fun e w'=>e= .returned (.bool (!s.busy))∧w'=w:=by
 have H:=hide h
 clear h
 go_enter Try.func54,Try.ntmps54
 go_wp2_with (first |(go_at_call 68;refine(none40 s ln b _ (unhide H)).mono ?_;rintro e W11 ⟨rfl,q11⟩;replace q11:=q11.symm;subst q11;refine Stp.go ?_))
 constructor
 go_wp2_with (first |(go_at_call 72;refine(busy44 s ln b _ (unhide H)).mono ?_;rintro e W12 ⟨rfl,q12⟩;replace q12:=q12.symm;subst q12;refine Stp.go ?_))
 constructor
 go_wp2_with fail
 go_ret
 exact⟨rfl,rfl⟩
def holdsP (s:Lo) (m:Int):Int×Bool:=if isN m=true∧s.ho m.toNat=true then (if s.ex=m then (2,true) else (1,true)) else (0,false)
theorem hold_a (s:Lo) (ln:Value) (b:Nat) (m:Int) (w:World) (h:Blk w b 108 (s.C ln)) (hm:isN m=false):Calls Try.prog 59 #[P0 b,.int .i64 m] w fun e w'=>e= .returned (.tuple #[.int .i64 0,.bool false])∧w'=w:=by
 have H:=hide h
 have P46:∀W,Hid (Calls Try.prog 76 #[.int .i64 m] W fun e w'=>e= .returned (.bool false)∧w'=W):=fun W=>hide (by have h9:=isNode46 m W;rw [show isN m=false by exact hm] at h9;exact h9)
 clear h hm
 go_enter Try.func59,Try.ntmps59
 go_wp2_with (first |(go_at_call 68;refine(none40 s ln b _ (unhide H)).mono ?_;rintro e W11 ⟨rfl,q11⟩;replace q11:=q11.symm;subst q11;refine Stp.go ?_))
 constructor
 go_wp2_with (first |(go_at_call 76;refine(unhide (P46 _)).mono ?_;rintro e W12 ⟨rfl,q12⟩;replace q12:=q12.symm;subst q12;refine Stp.go ?_))
 constructor
 go_wp2_with fail
 go_ret2
 exact⟨rfl,rfl⟩
theorem hold_b (s:Lo) (ln:Value) (b n:Nat) (w:World) (h:Blk w b 108 (s.C ln)) (hn:n<8) (hh:s.ho n=false):Calls Try.prog 59 #[P0 b,.int .i64 n] w fun e w'=>e= .returned (.tuple #[.int .i64 0,.bool false])∧w'=w:=by
 have H:=hide h
 have hnI:(n:Int)<8:=by omega
 have P46:=t46 (n:=n) (by omega)
 have ch:=h.ho hn
 rw [hh] at ch
 have c1:=fits_cell h 1 _ rfl
 clear h hh
 go_enter Try.func59,Try.ntmps59
 go_wp2_with (first |(go_at_call 68;refine(none40 s ln b _ (unhide H)).mono ?_;rintro e W11 ⟨rfl,q11⟩;replace q11:=q11.symm;subst q11;refine Stp.go ?_))
 constructor
 go_wp2_with (first |(go_at_call 76;refine(unhide (P46 _)).mono ?_;rintro e W12 ⟨rfl,q12⟩;replace q12:=q12.symm;subst q12;refine Stp.go ?_))
 constructor
 go_wp2_with fail
 go_ret2
 exact⟨rfl,rfl⟩
theorem hold_c (s:Lo) (ln:Value) (b n:Nat) (w:World) (h:Blk w b 108 (s.C ln)) (hn:n<8) (hh:s.ho n=true) (hx:s.ex=(n:Int)):Calls Try.prog 59 #[P0 b,.int .i64 n] w fun e w'=>e= .returned (.tuple #[.int .i64 2,.bool true])∧w'=w:=by
 have H:=hide h
 have hnI:(n:Int)<8:=by omega
 have P46:=t46 (n:=n) (by omega)
 have ch:=h.ho hn
 rw [hh] at ch
 have c1:=fits_cell h 1 _ rfl
 rw [hx] at c1
 clear hx
 clear h hh
 go_enter Try.func59,Try.ntmps59
 go_wp2_with (first |(go_at_call 68;refine(none40 s ln b _ (unhide H)).mono ?_;rintro e W11 ⟨rfl,q11⟩;replace q11:=q11.symm;subst q11;refine Stp.go ?_))
 constructor
 go_wp2_with (first |(go_at_call 76;refine(unhide (P46 _)).mono ?_;rintro e W12 ⟨rfl,q12⟩;replace q12:=q12.symm;subst q12;refine Stp.go ?_))
 constructor
 go_wp2_with fail
 go_ret2
 exact⟨rfl,rfl⟩
theorem hold_d (s:Lo) (ln:Value) (b n:Nat) (w:World) (h:Blk w b 108 (s.C ln)) (hn:n<8) (hh:s.ho n=true) (hx:¬s.ex=(n:Int)):Calls Try.prog 59 #[P0 b,.int .i64 n] w fun e w'=>e= .returned (.tuple #[.int .i64 1,.bool true])∧w'=w:=by
 have H:=hide h
 have hnI:(n:Int)<8:=by omega
 have P46:=t46 (n:=n) (by omega)
 have ch:=h.ho hn
 rw [hh] at ch
 have c1:=fits_cell h 1 _ rfl
 have hxa:decide (s.ex=(n:Int))=false:=nef_a hx
 have hxb:(s.ex == (n:Int))=false:=nef_b hx
 have hxc:(s.ex !=(n:Int))=true:=nef_c hx
 clear h hh
 go_enter Try.func59,Try.ntmps59
 go_wp2_with (first |(go_at_call 68;refine(none40 s ln b _ (unhide H)).mono ?_;rintro e W11 ⟨rfl,q11⟩;replace q11:=q11.symm;subst q11;refine Stp.go ?_))
 constructor
 go_wp2_with (first |(go_at_call 76;refine(unhide (P46 _)).mono ?_;rintro e W12 ⟨rfl,q12⟩;replace q12:=q12.symm;subst q12;refine Stp.go ?_))
 constructor
 go_wp2_with fail
 go_ret2
 exact⟨rfl,rfl⟩
theorem holds18 (s:Lo) (ln:Value) (b:Nat) (m:Int) (w:World) (h:Blk w b 108 (s.C ln)):Calls Try.prog 59 #[P0 b,.int .i64 m] w fun e w'=>e= .returned (.tuple #[.int .i64 (holdsP s m).1,.bool (holdsP s m).2])∧w'=w:=by
 unfold holdsP
 cases hm:isN m with
 | false=>rw [if_neg (by simp)];exact hold_a s ln b m w h hm
 | true=>
   have h1:0≤m∧m<8:=by simpa [isN] using hm
   obtain⟨n,rfl⟩:∃n:Nat,m=n:=⟨m.toNat,by omega⟩
   have hn:n<8:=by omega
   simp only [Int.toNat_natCast]
   cases hh:s.ho n with
   | false=>rw [if_neg (by simp)];exact hold_b s ln b n w h hn hh
   | true=>
     rw [if_pos (by simp)]
     by_cases hx:s.ex=(n:Int)
     · rw [if_pos hx];exact hold_c s ln b n w h hn hh hx
     · rw [if_neg hx];exact hold_d s ln b n w h hn hh hx
def Lo.shd (s:Lo):Nat→Bool:=if s.ex= -1 then s.ho else upd s.ho s.ex.toNat false
theorem shd_a (s:Lo) (ln:Value) (b:Nat) (w:World) (h:Blk w b 108 (s.C ln)) (hs:s.ex= -1):Calls Try.prog 69 #[P0 b] w fun e w'=>e= .returned (aggV (b8 s.ho))∧Kept [] w w':=by
 have H:=hide h
 have HS:=hide hs
 clear hs
 clear h
 go_enter Try.func69,Try.ntmps69
 have M:Hid (Mm [] w w []):=hide Mm.init
 go_wp2_with (first |(refine wpAllocW (b8 no8) zero73 2 rfl rfl rfl ?_;intro W1 b1 e1 B1 K1;replace M:=hide ((unhide M).new e1 B1 K1);clear e1 B1 K1;refine Stp.go ?_))
 constructor
 go_wp2_with (first |(refine wpLoadA row73 rfl (.tmp 6) rfl b (3) rfl (b8 s.ho) rfl (((unhide H).kept (unhide M).kept (by simp)).hoA) ?_;refine Stp.go ?_))
 constructor
 go_wp2_with (first |(refine wpNew row73 (b8 no8) rfl zero73 3 rfl rfl rfl (.tmp 7) rfl rfl rfl (b8 s.ho) rfl (b8_one _) (by kernel_rfl) (by kernel_rfl) ?_;intro W2 b2 e2 B2 K2;replace M:=hide ((unhide M).new e2 B2 K2);clear e2 B2 K2;have c1:W2.cell? ⟨b,1,none⟩=some (.int .i64 (-1)):=fits_cell ((unhide H).kept (unhide M).kept (by simp)) 1 _ (by rw [← unhide HS];rfl);refine Stp.go ?_))
 constructor
 go_wp2_with (first |(refine wpLoadA row73 rfl (.tmp 3) rfl b2 0 rfl (b8 s.ho) rfl ((unhide M).at 1 _ rfl).range ?_;refine Stp.go ?_))
 constructor
 go_wp2_with (first |(refine wpStoreM row73 rfl (.tmp 2) (.tmp 18) rfl rfl b1 0 (b8 s.ho) rfl rfl rfl (b8_one _) (unhide M) rfl rfl ?_;intro W3 N3;replace M:Hid (Mm [] w W3 [(b1,106,b8 s.ho),(b2,106,b8 s.ho)]):=hide N3;clear N3;refine Stp.go ?_))
 constructor
 go_wp2_with fail
 refine bodyPost_ret (v:=aggV (b8 s.ho)) ?_ rfl ?_
 · exact res41 _ _ _ _ rfl rfl ((unhide M).at 0 _ rfl)
 exact⟨rfl,(unhide M).kept⟩
theorem shd_b (s:Lo) (ln:Value) (b:Nat) (w:World) (h:Blk w b 108 (s.C ln)) (n:Nat) (hn:n<8) (hs:s.ex=(n:Int)):Calls Try.prog 69 #[P0 b] w fun e w'=>e= .returned (aggV (b8 (upd s.ho n false)))∧Kept [] w w':=by
 have H:=hide h
 have HS:=hide hs
 clear hs
 have hnI:(n:Int)<8:=by omega
 have h0:¬(n:Int)= -1:=by omega
 have h0a:decide ((n:Int)= -1)=false:=nef_a h0
 have h0b:((n:Int) == -1)=false:=nef_b h0
 have h0c:((n:Int) != -1)=true:=nef_c h0
 clear h
 go_enter Try.func69,Try.ntmps69
 have M:Hid (Mm [] w w []):=hide Mm.init
 go_wp2_with (first |(refine wpAllocW (b8 no8) zero73 2 rfl rfl rfl ?_;intro W1 b1 e1 B1 K1;replace M:=hide ((unhide M).new e1 B1 K1);clear e1 B1 K1;refine Stp.go ?_))
 constructor
 go_wp2_with (first |(refine wpLoadA row73 rfl (.tmp 6) rfl b (3) rfl (b8 s.ho) rfl (((unhide H).kept (unhide M).kept (by simp)).hoA) ?_;refine Stp.go ?_))
 constructor
 go_wp2_with (first |(refine wpNew row73 (b8 no8) rfl zero73 3 rfl rfl rfl (.tmp 7) rfl rfl rfl (b8 s.ho) rfl (b8_one _) (by kernel_rfl) (by kernel_rfl) ?_;intro W2 b2 e2 B2 K2;replace M:=hide ((unhide M).new e2 B2 K2);clear e2 B2 K2;have c1:W2.cell? ⟨b,1,none⟩=some (.int .i64 n):=fits_cell ((unhide H).kept (unhide M).kept (by simp)) 1 _ (by rw [← unhide HS];rfl);refine Stp.go ?_))
 constructor
 go_wp2_with (first |(refine wpSt1 size4 rfl (.tmp 17) (.const (.bool false)) rfl rfl b2 (n) 1 (.bool false) ⟨rfl,rfl⟩ rfl rfl (unhide M) rfl (hn) (b8_set _ _ hn _) ?_;intro W3 N3;replace M:Hid (Mm [] w W3 [(b1,106,b8 no8),(b2,106,b8 (upd s.ho n false))]):=hide N3;clear N3 c1;refine Stp.go ?_))
 constructor
 go_wp2_with (first |(refine wpLoadA row73 rfl (.tmp 3) rfl b2 0 rfl (b8 (upd s.ho n false)) rfl ((unhide M).at 1 _ rfl).range ?_;refine Stp.go ?_))
 constructor
 go_wp2_with (first |(refine wpStoreM row73 rfl (.tmp 2) (.tmp 18) rfl rfl b1 0 (b8 (upd s.ho n false)) rfl rfl rfl (b8_one _) (unhide M) rfl rfl ?_;intro W4 N4;replace M:Hid (Mm [] w W4 [(b1,106,b8 (upd s.ho n false)),(b2,106,b8 (upd s.ho n false))]):=hide N4;clear N4;refine Stp.go ?_))
 constructor
 go_wp2_with fail
 refine bodyPost_ret (v:=aggV (b8 (upd s.ho n false))) ?_ rfl ?_
 · exact res41 _ _ _ _ rfl rfl ((unhide M).at 0 _ rfl)
 exact⟨rfl,(unhide M).kept⟩
theorem shd41 (s:Lo) (ln:Value) (b:Nat) (w:World) (h:Blk w b 108 (s.C ln)) (hs: -1≤s.ex∧s.ex<8):Calls Try.prog 69 #[P0 b] w fun e w'=>e= .returned (aggV (b8 s.shd))∧Kept [] w w':=by
 unfold Lo.shd
 by_cases h1:s.ex= -1
 · rw [if_pos h1];exact shd_a s ln b w h h1
 · rw [if_neg h1]
   exact shd_b s ln b w h s.ex.toNat (by omega) (by omega)
theorem bs38z (w:World):(Instr.buildSlice 35 0 #[]).run Try.prog w= .ok (.slice (some ⟨w.heap.size,0,none⟩) 0 0) (w.alloc (.cells #[] 38)):=by kernel_rfl
section
variable {ops:Array Oper} {rest:List Oper} {op:Oper} {a:Act} {w:World} {Q:Exit→Act→World→Prop}
theorem wpBs38z (hgd:op.guard=none) (ho:op.op= .buildSlice 35 0 #[]) (h:∀W g,g=w.heap.size→Blk W g 38 []→Kept [] w W→wpList Try.prog ops Q rest (a.put op.dst (.slice (some ⟨g,0,none⟩) 0 0)) W):wpList Try.prog ops Q (op::rest) a w:=
 wpList_plain hgd fun _ hK=>by
   unfold Oper.wp execOp
   simp only [ho,Array.map_empty,Sem.run_bind,bs38z,Result.andThen_ok]
   exact hK _ _ (h _ _ rfl (Blk.new _ _ []) ((Kept.refl _ _).alloc _))
end
theorem clone43 (L:List Wi) (v:Value) (w:World) (h:Ws w v L) (hL:L.length≤1000):Calls Try.prog 71 #[v] w fun e w'=>∃u,e= .returned u∧New w w' 38 2 u L.length (wsC L)∧Kept [] w w':=by
 obtain⟨ao,c,rfl,hc,hno⟩:=h.sl
 cases ao with
 | none=>
   obtain⟨h0,rfl⟩:=hno rfl
   obtain rfl:L= []:=List.length_eq_zero_iff.1 h0
   clear h
   have hq:∀W,Sem.run Try.prog (binOp BinOp.eql 35 (.slice none 0 0) (.slice none 0 0)) W= .ok (.bool true) W:=fun W=>by kernel_rfl
   show Calls Try.prog 71 #[.slice none 0 0] w _
   go_enter Try.func71,Try.ntmps71
   go_wp2_with fail
   go_ret
   exact⟨_,rfl,New.nil _ _ _ _,Kept.refl _ _⟩
 | some ad=>
   have H:=hide h
   clear h hc hno
   have hq:∀W,Sem.run Try.prog (binOp BinOp.eql 35 (.slice (some ad) L.length c) (.slice none 0 0)) W= .ok (.bool false) W:=fun W=>by kernel_rfl
   go_enter Try.func71,Try.ntmps71
   go_wp2_with (first |(refine wpBs38z rfl rfl ?_;intro W1 g e1 B1 K1;have HB:=hide B1;have HG:Hid (w.heap.size≤g):=(by show _≤_;omega);have HK:=hide K1;clear e1 B1 K1;refine Stp.go ?_))
   constructor
   go_wp2_with (first |(refine wpAppN (w0:=w) el38 rfl (.tmp 5) (.tmp 6) rfl _ 0 [] rfl ⟨Rw.made (n:=0) (unhide HB) rfl (max1000 (by omega)),fun k hk=>by cases hk;exact unhide HG⟩ _ L.length (wsC L) rfl ((unhide H).kept (unhide HK) (by simp)) (wsC_one _) (by omega) (max1000 (by omega)) (unhide HK).size ?_;intro v2 W2 N2 K2;have HN:=hide N2;have HK2:Hid (Kept [] w W2):=(unhide HK).own K2 (fun i hi=>by cases hi);clear N2 K2;refine Stp.go ?_))
   constructor
   go_wp2_with fail
   go_ret
   exact⟨v2,rfl,by have h9:=unhide HN;rw [Nat.zero_add,List.nil_append] at h9;exact h9,unhide HK2⟩
end Go.Proofs.Ytbigongmlpoahaa

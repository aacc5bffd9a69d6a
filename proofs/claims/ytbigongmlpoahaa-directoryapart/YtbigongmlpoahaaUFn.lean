import Derived.Test.YtbigongmlpoahaaUFm
namespace Go.Proofs.Ytbigongmlpoahaa
set_option maxHeartbeats 2000000
set_option maxRecDepth 100000
set_option linter.unusedSimpArgs false
open Go.RowKit
def more (O:List Od) (r:Lo×List Wi×List Od):Lo×List Wi×List Od:=(r.1,r.2.1,O++r.2.2)
def relN (s:Lo) (L:List Wi) (n:Nat) (c:Int):Lo×List Wi×List Od:=
 if (s.give n).wa n=true then (((s.give n).isGone n).1,L,((s.give n).isGone n).2)
 else if (s.give n).sends=true∧(n:Int)=s.su∧c<s.op then ((s.give n).anew.1,L,(s.give n).anew.2)
 else if s.hk=3∧(n:Int)=s.ow then more (s.give n).needless.2 (nextP (s.give n).needless.1 L)
 else (s.give n,L,[])
def relP (s:Lo) (L:List Wi) (m c:Int):Lo×List Wi×List Od:=if isN m then relN s L m.toNat c else (s,L,[])
def Lo.noPa (s:Lo):Lo:= { s with pa:=no8 }
def wroteN (s:Lo) (L:List Wi) (n:Nat) (c p:Int):Lo×List Wi×List Od:=
 if (n:Int)=s.ow∧c=s.ops n then
   (if s.ex=(n:Int) then (if s.hk=3 then more (s.discards p) (nextP s.noPa.over L) else (s.noPa,L,s.discards p))
   else (if s.hk=3 then more (s.discards p) (nextP s.noPa.noOw.over L) else (s.noPa.noOw,L,s.discards p)))
 else (s,L,s.discards p)
def wroteP (s:Lo) (L:List Wi) (m c p:Int):Lo×List Wi×List Od:=if isN m=true∧0≤p∧p≤2147483647 then wroteN s L m.toNat c p else (s,L,[])
theorem anew_op (s:Lo):s.anew.1.op=s.op+1:=by unfold Lo.anew;split <;> rfl
theorem noPa_ok {s:Lo} (h:s.Ok):s.noPa.Ok:=⟨h.ex,h.ow,h.su,h.hn⟩
theorem noOw_ok {s:Lo} (h:s.Ok):s.noOw.Ok:=⟨h.ex,by simp [Lo.noOw],h.su,h.hn⟩
theorem nextP_len:∀(L:List Wi) (s:Lo),(nextP s L).2.2.length≤8*L.length
 | [],s=>by simp [nextP]
 | x::r,s=>by
   have h1:=begin_len (s.take x)
   have h2:=nextP_len r (s.take x).begin.1
   rw [nextP]
   split
   · simp;omega
   · simp;omega
theorem discards_len (s:Lo) (p:Int):(s.discards p).length≤8:=by simp [Lo.discards];exact lstTo_len _ 8
theorem rel_a (s:Lo) (ln:Value) (b:Nat) (L:List Wi) (m c:Int) (w:World) (h:Sd w b ln s L) (hm:isN m=false):Calls Try.prog 51 #[P0 b,.int .i64 m,.int .i64 c] w (LC b ln w (s,L,[])):=by
 have H:=hide h
 have P46:∀W,Hid (Calls Try.prog 76 #[.int .i64 m] W fun e w'=>e= .returned (.bool false)∧w'=W):=fun W=>hide (by have h9:=isNode46 m W;rw [show isN m=false by exact hm] at h9;exact h9)
 clear h hm
 go_enter Try.func51,Try.ntmps51
 go_wp2_with (first |(go_at_call 68;refine(none40 s ln b _ ((unhide H).blk)).mono ?_;rintro e W11 ⟨rfl,q11⟩;replace q11:=q11.symm;subst q11;refine Stp.go ?_))
 constructor
 go_wp2_with (first |(go_at_call 76;refine(unhide (P46 _)).mono ?_;rintro e W12 ⟨rfl,q12⟩;replace q12:=q12.symm;subst q12;refine Stp.go ?_))
 constructor
 go_wp2_with fail
 go_ret
 exact LC.none (unhide H).blk (unhide H).row (Kept.refl _ _)
theorem rel_d1 (s:Lo) (ln:Value) (b:Nat) (L:List Wi) (n:Nat) (c:Int) (w:World) (h:Sd w b ln s L) (hn:n<8) (hF:¬s.hk=3) (hw:(s.give n).wa n=true):Calls Try.prog 51 #[P0 b,.int .i64 n,.int .i64 c] w (LC b ln w (((s.give n).isGone n).1,L,((s.give n).isGone n).2)):=by
 have H:=hide h
 have hnI:(n:Int)<8:=by omega
 have P46:=t46 (n:=n) (by omega)
 have c2:=fits_cell h.blk 2 _ rfl
 have P49:=hide (flushes49 s ln b w h.blk)
 rw [show decide (s.hk=3)=false by simpa using hF] at P49
 clear hF
 have HW:=hide hw
 clear hw h
 go_enter Try.func51,Try.ntmps51
 go_wp2_with (first |(go_at_call 68;refine(none40 s ln b _ ((unhide H).blk)).mono ?_;rintro e W11 ⟨rfl,q11⟩;replace q11:=q11.symm;subst q11;refine Stp.go ?_))
 constructor
 go_wp2_with (first |(go_at_call 76;refine(unhide (P46 _)).mono ?_;rintro e W12 ⟨rfl,q12⟩;replace q12:=q12.symm;subst q12;refine Stp.go ?_))
 constructor
 go_wp2_with (first |(go_at_call 83;refine(unhide P49).mono ?_;rintro e W13 ⟨rfl,q13⟩;replace q13:=q13.symm;subst q13;refine Stp.go ?_))
 constructor
 go_wp2_with (first |(go_at_call 77;refine(give50 s ln b n _ (unhide H).blk hn).mono ?_;rintro e W2 ⟨rfl,B2,K2⟩;have HB2:=hide B2;have HK2:=hide K2;have cw:W2.cell? ⟨b,32+n,none⟩=some (.bool true):=(by have h9:=B2.wa hn;rw [unhide HW] at h9;exact h9);clear B2 K2 c2;refine Stp.go ?_))
 constructor
 go_wp2_with (first |(go_at_call 78;refine(isGone51 (s.give n) ln b n _ (unhide HB2) (give_ok (unhide H).ok n) hn).mono ?_;rintro e W3 ⟨v,rfl,N3,B3,K3⟩;have HN:=hide (N3.elder (w:=w) (unhide HK2).size);have HB3:=hide B3;have HK3:Hid (Kept [b] w W3):=(unhide HK2).trans K3;clear N3 B3 K3 cw;refine Stp.go ?_))
 constructor
 go_wp2_with fail
 go_ret
 exact⟨v,ln,rfl,unhide HN,unhide HB3,(unhide H).row1 (unhide HK3),(unhide HK3).mono (by simp),Grw.refl _ _⟩
theorem rel_d2 (s:Lo) (ln:Value) (b:Nat) (L:List Wi) (n:Nat) (c:Int) (w:World) (h:Sd w b ln s L) (hn:n<8) (hF:s.hk=3) (hO:¬(n:Int)=s.ow) (hw:(s.give n).wa n=true):Calls Try.prog 51 #[P0 b,.int .i64 n,.int .i64 c] w (LC b ln w (((s.give n).isGone n).1,L,((s.give n).isGone n).2)):=by
 have H:=hide h
 have hnI:(n:Int)<8:=by omega
 have P46:=t46 (n:=n) (by omega)
 have c2:=fits_cell h.blk 2 _ rfl
 have P49:=hide (flushes49 s ln b w h.blk)
 rw [show decide (s.hk=3)=true by simpa using hF] at P49
 clear hF
 have hOa:decide ((n:Int)=s.ow)=false:=nef_a hO
 have hOb:((n:Int) == s.ow)=false:=nef_b hO
 have hOc:((n:Int) !=s.ow)=true:=nef_c hO
 have HW:=hide hw
 clear hw h
 go_enter Try.func51,Try.ntmps51
 go_wp2_with (first |(go_at_call 68;refine(none40 s ln b _ ((unhide H).blk)).mono ?_;rintro e W11 ⟨rfl,q11⟩;replace q11:=q11.symm;subst q11;refine Stp.go ?_))
 constructor
 go_wp2_with (first |(go_at_call 76;refine(unhide (P46 _)).mono ?_;rintro e W12 ⟨rfl,q12⟩;replace q12:=q12.symm;subst q12;refine Stp.go ?_))
 constructor
 go_wp2_with (first |(go_at_call 83;refine(unhide P49).mono ?_;rintro e W13 ⟨rfl,q13⟩;replace q13:=q13.symm;subst q13;refine Stp.go ?_))
 constructor
 go_wp2_with (first |(go_at_call 77;refine(give50 s ln b n _ (unhide H).blk hn).mono ?_;rintro e W2 ⟨rfl,B2,K2⟩;have HB2:=hide B2;have HK2:=hide K2;have cw:W2.cell? ⟨b,32+n,none⟩=some (.bool true):=(by have h9:=B2.wa hn;rw [unhide HW] at h9;exact h9);clear B2 K2 c2;refine Stp.go ?_))
 constructor
 go_wp2_with (first |(go_at_call 78;refine(isGone51 (s.give n) ln b n _ (unhide HB2) (give_ok (unhide H).ok n) hn).mono ?_;rintro e W3 ⟨v,rfl,N3,B3,K3⟩;have HN:=hide (N3.elder (w:=w) (unhide HK2).size);have HB3:=hide B3;have HK3:Hid (Kept [b] w W3):=(unhide HK2).trans K3;clear N3 B3 K3 cw;refine Stp.go ?_))
 constructor
 go_wp2_with fail
 go_ret
 exact⟨v,ln,rfl,unhide HN,unhide HB3,(unhide H).row1 (unhide HK3),(unhide HK3).mono (by simp),Grw.refl _ _⟩
theorem rel_d3 (s:Lo) (ln:Value) (b:Nat) (L:List Wi) (n:Nat) (c:Int) (w:World) (h:Sd w b ln s L) (hn:n<8) (hF:s.hk=3) (hO:(n:Int)=s.ow) (hw:(s.give n).wa n=true):Calls Try.prog 51 #[P0 b,.int .i64 n,.int .i64 c] w (LC b ln w (((s.give n).isGone n).1,L,((s.give n).isGone n).2)):=by
 have H:=hide h
 have hnI:(n:Int)<8:=by omega
 have P46:=t46 (n:=n) (by omega)
 have c2:=fits_cell h.blk 2 _ rfl
 have P49:=hide (flushes49 s ln b w h.blk)
 rw [show decide (s.hk=3)=true by simpa using hF] at P49
 clear hF
 rw [← hO] at c2
 clear hO
 have HW:=hide hw
 clear hw h
 go_enter Try.func51,Try.ntmps51
 go_wp2_with (first |(go_at_call 68;refine(none40 s ln b _ ((unhide H).blk)).mono ?_;rintro e W11 ⟨rfl,q11⟩;replace q11:=q11.symm;subst q11;refine Stp.go ?_))
 constructor
 go_wp2_with (first |(go_at_call 76;refine(unhide (P46 _)).mono ?_;rintro e W12 ⟨rfl,q12⟩;replace q12:=q12.symm;subst q12;refine Stp.go ?_))
 constructor
 go_wp2_with (first |(go_at_call 83;refine(unhide P49).mono ?_;rintro e W13 ⟨rfl,q13⟩;replace q13:=q13.symm;subst q13;refine Stp.go ?_))
 constructor
 go_wp2_with (first |(go_at_call 77;refine(give50 s ln b n _ (unhide H).blk hn).mono ?_;rintro e W2 ⟨rfl,B2,K2⟩;have HB2:=hide B2;have HK2:=hide K2;have cw:W2.cell? ⟨b,32+n,none⟩=some (.bool true):=(by have h9:=B2.wa hn;rw [unhide HW] at h9;exact h9);clear B2 K2 c2;refine Stp.go ?_))
 constructor
 go_wp2_with (first |(go_at_call 78;refine(isGone51 (s.give n) ln b n _ (unhide HB2) (give_ok (unhide H).ok n) hn).mono ?_;rintro e W3 ⟨v,rfl,N3,B3,K3⟩;have HN:=hide (N3.elder (w:=w) (unhide HK2).size);have HB3:=hide B3;have HK3:Hid (Kept [b] w W3):=(unhide HK2).trans K3;clear N3 B3 K3 cw;refine Stp.go ?_))
 constructor
 go_wp2_with fail
 go_ret
 exact⟨v,ln,rfl,unhide HN,unhide HB3,(unhide H).row1 (unhide HK3),(unhide HK3).mono (by simp),Grw.refl _ _⟩
theorem rel_e1 (s:Lo) (ln:Value) (b:Nat) (L:List Wi) (n:Nat) (c:Int) (w:World) (h:Sd w b ln s L) (hn:n<8) (hF:¬s.hk=3) (hw:(s.give n).wa n=false) (hS:(s.give n).sends=true) (hu:(n:Int)=s.su) (hc:c<s.op):Calls Try.prog 51 #[P0 b,.int .i64 n,.int .i64 c] w (LC b ln w ((s.give n).anew.1,L,(s.give n).anew.2)):=by
 have H:=hide h
 have hnI:(n:Int)<8:=by omega
 have P46:=t46 (n:=n) (by omega)
 have c2:=fits_cell h.blk 2 _ rfl
 have P49:=hide (flushes49 s ln b w h.blk)
 rw [show decide (s.hk=3)=false by simpa using hF] at P49
 clear hF
 have HW:=hide hw
 clear hw h
 have HSe:=hide hS
 clear hS
 have HU:=hide hu
 clear hu
 have hcd:decide (c<s.op)=true:=by simpa using hc
 go_enter Try.func51,Try.ntmps51
 go_wp2_with (first |(go_at_call 68;refine(none40 s ln b _ ((unhide H).blk)).mono ?_;rintro e W11 ⟨rfl,q11⟩;replace q11:=q11.symm;subst q11;refine Stp.go ?_))
 constructor
 go_wp2_with (first |(go_at_call 76;refine(unhide (P46 _)).mono ?_;rintro e W12 ⟨rfl,q12⟩;replace q12:=q12.symm;subst q12;refine Stp.go ?_))
 constructor
 go_wp2_with (first |(go_at_call 83;refine(unhide P49).mono ?_;rintro e W13 ⟨rfl,q13⟩;replace q13:=q13.symm;subst q13;refine Stp.go ?_))
 constructor
 go_wp2_with (first |(go_at_call 77;refine(give50 s ln b n _ (unhide H).blk hn).mono ?_;rintro e W2 ⟨rfl,B2,K2⟩;have HB2:=hide B2;have HK2:=hide K2;have cw:W2.cell? ⟨b,32+n,none⟩=some (.bool false):=(by have h9:=B2.wa hn;rw [unhide HW] at h9;exact h9);have c31:W2.cell? ⟨b,31,none⟩=some (.int .i64 (n:Int)):=(by rw [unhide HU];exact fits_cell B2 31 _ rfl);have c30:W2.cell? ⟨b,30,none⟩=some (.int .i64 s.op):=fits_cell B2 30 _ rfl;clear B2 K2 c2;refine Stp.go ?_))
 constructor
 go_wp2_with (first |(go_at_call 79;refine(sends52 (s.give n) ln b _ (unhide HB2)).mono ?_;rintro e W14 ⟨rfl,q14⟩;replace q14:=q14.symm;subst q14;rw [unhide HSe];refine Stp.go ?_))
 constructor
 go_wp2_with (first |(go_at_call 84;refine(anew53 (s.give n) ln b _ (unhide HB2) (give_ok (unhide H).ok n) (by show 0≤s.op∧s.op≤1000000;have:=(unhide H).op0;have:=(unhide H).op1;omega)).mono ?_;rintro e W3 ⟨v,rfl,N3,B3,K3⟩;have HN:=hide (N3.elder (w:=w) (unhide HK2).size);have HB3:=hide B3;have HK3:Hid (Kept [b] w W3):=(unhide HK2).trans K3;clear N3 B3 K3 cw c30 c31;refine Stp.go ?_))
 constructor
 go_wp2_with fail
 go_ret
 exact⟨v,ln,rfl,unhide HN,unhide HB3,(unhide H).row1 (unhide HK3),(unhide HK3).mono (by simp),Grw.refl _ _⟩
theorem rel_e2 (s:Lo) (ln:Value) (b:Nat) (L:List Wi) (n:Nat) (c:Int) (w:World) (h:Sd w b ln s L) (hn:n<8) (hF:s.hk=3) (hO:¬(n:Int)=s.ow) (hw:(s.give n).wa n=false) (hS:(s.give n).sends=true) (hu:(n:Int)=s.su) (hc:c<s.op):Calls Try.prog 51 #[P0 b,.int .i64 n,.int .i64 c] w (LC b ln w ((s.give n).anew.1,L,(s.give n).anew.2)):=by
 have H:=hide h
 have hnI:(n:Int)<8:=by omega
 have P46:=t46 (n:=n) (by omega)
 have c2:=fits_cell h.blk 2 _ rfl
 have P49:=hide (flushes49 s ln b w h.blk)
 rw [show decide (s.hk=3)=true by simpa using hF] at P49
 clear hF
 have hOa:decide ((n:Int)=s.ow)=false:=nef_a hO
 have hOb:((n:Int) == s.ow)=false:=nef_b hO
 have hOc:((n:Int) !=s.ow)=true:=nef_c hO
 have HW:=hide hw
 clear hw h
 have HSe:=hide hS
 clear hS
 have HU:=hide hu
 clear hu
 have hcd:decide (c<s.op)=true:=by simpa using hc
 go_enter Try.func51,Try.ntmps51
 go_wp2_with (first |(go_at_call 68;refine(none40 s ln b _ ((unhide H).blk)).mono ?_;rintro e W11 ⟨rfl,q11⟩;replace q11:=q11.symm;subst q11;refine Stp.go ?_))
 constructor
 go_wp2_with (first |(go_at_call 76;refine(unhide (P46 _)).mono ?_;rintro e W12 ⟨rfl,q12⟩;replace q12:=q12.symm;subst q12;refine Stp.go ?_))
 constructor
 go_wp2_with (first |(go_at_call 83;refine(unhide P49).mono ?_;rintro e W13 ⟨rfl,q13⟩;replace q13:=q13.symm;subst q13;refine Stp.go ?_))
 constructor
 go_wp2_with (first |(go_at_call 77;refine(give50 s ln b n _ (unhide H).blk hn).mono ?_;rintro e W2 ⟨rfl,B2,K2⟩;have HB2:=hide B2;have HK2:=hide K2;have cw:W2.cell? ⟨b,32+n,none⟩=some (.bool false):=(by have h9:=B2.wa hn;rw [unhide HW] at h9;exact h9);have c31:W2.cell? ⟨b,31,none⟩=some (.int .i64 (n:Int)):=(by rw [unhide HU];exact fits_cell B2 31 _ rfl);have c30:W2.cell? ⟨b,30,none⟩=some (.int .i64 s.op):=fits_cell B2 30 _ rfl;clear B2 K2 c2;refine Stp.go ?_))
 constructor
 go_wp2_with (first |(go_at_call 79;refine(sends52 (s.give n) ln b _ (unhide HB2)).mono ?_;rintro e W14 ⟨rfl,q14⟩;replace q14:=q14.symm;subst q14;rw [unhide HSe];refine Stp.go ?_))
 constructor
 go_wp2_with (first |(go_at_call 84;refine(anew53 (s.give n) ln b _ (unhide HB2) (give_ok (unhide H).ok n) (by show 0≤s.op∧s.op≤1000000;have:=(unhide H).op0;have:=(unhide H).op1;omega)).mono ?_;rintro e W3 ⟨v,rfl,N3,B3,K3⟩;have HN:=hide (N3.elder (w:=w) (unhide HK2).size);have HB3:=hide B3;have HK3:Hid (Kept [b] w W3):=(unhide HK2).trans K3;clear N3 B3 K3 cw c30 c31;refine Stp.go ?_))
 constructor
 go_wp2_with fail
 go_ret
 exact⟨v,ln,rfl,unhide HN,unhide HB3,(unhide H).row1 (unhide HK3),(unhide HK3).mono (by simp),Grw.refl _ _⟩
theorem rel_e3 (s:Lo) (ln:Value) (b:Nat) (L:List Wi) (n:Nat) (c:Int) (w:World) (h:Sd w b ln s L) (hn:n<8) (hF:s.hk=3) (hO:(n:Int)=s.ow) (hw:(s.give n).wa n=false) (hS:(s.give n).sends=true) (hu:(n:Int)=s.su) (hc:c<s.op):Calls Try.prog 51 #[P0 b,.int .i64 n,.int .i64 c] w (LC b ln w ((s.give n).anew.1,L,(s.give n).anew.2)):=by
 have H:=hide h
 have hnI:(n:Int)<8:=by omega
 have P46:=t46 (n:=n) (by omega)
 have c2:=fits_cell h.blk 2 _ rfl
 have P49:=hide (flushes49 s ln b w h.blk)
 rw [show decide (s.hk=3)=true by simpa using hF] at P49
 clear hF
 rw [← hO] at c2
 clear hO
 have HW:=hide hw
 clear hw h
 have HSe:=hide hS
 clear hS
 have HU:=hide hu
 clear hu
 have hcd:decide (c<s.op)=true:=by simpa using hc
 go_enter Try.func51,Try.ntmps51
 go_wp2_with (first |(go_at_call 68;refine(none40 s ln b _ ((unhide H).blk)).mono ?_;rintro e W11 ⟨rfl,q11⟩;replace q11:=q11.symm;subst q11;refine Stp.go ?_))
 constructor
 go_wp2_with (first |(go_at_call 76;refine(unhide (P46 _)).mono ?_;rintro e W12 ⟨rfl,q12⟩;replace q12:=q12.symm;subst q12;refine Stp.go ?_))
 constructor
 go_wp2_with (first |(go_at_call 83;refine(unhide P49).mono ?_;rintro e W13 ⟨rfl,q13⟩;replace q13:=q13.symm;subst q13;refine Stp.go ?_))
 constructor
 go_wp2_with (first |(go_at_call 77;refine(give50 s ln b n _ (unhide H).blk hn).mono ?_;rintro e W2 ⟨rfl,B2,K2⟩;have HB2:=hide B2;have HK2:=hide K2;have cw:W2.cell? ⟨b,32+n,none⟩=some (.bool false):=(by have h9:=B2.wa hn;rw [unhide HW] at h9;exact h9);have c31:W2.cell? ⟨b,31,none⟩=some (.int .i64 (n:Int)):=(by rw [unhide HU];exact fits_cell B2 31 _ rfl);have c30:W2.cell? ⟨b,30,none⟩=some (.int .i64 s.op):=fits_cell B2 30 _ rfl;clear B2 K2 c2;refine Stp.go ?_))
 constructor
 go_wp2_with (first |(go_at_call 79;refine(sends52 (s.give n) ln b _ (unhide HB2)).mono ?_;rintro e W14 ⟨rfl,q14⟩;replace q14:=q14.symm;subst q14;rw [unhide HSe];refine Stp.go ?_))
 constructor
 go_wp2_with (first |(go_at_call 84;refine(anew53 (s.give n) ln b _ (unhide HB2) (give_ok (unhide H).ok n) (by show 0≤s.op∧s.op≤1000000;have:=(unhide H).op0;have:=(unhide H).op1;omega)).mono ?_;rintro e W3 ⟨v,rfl,N3,B3,K3⟩;have HN:=hide (N3.elder (w:=w) (unhide HK2).size);have HB3:=hide B3;have HK3:Hid (Kept [b] w W3):=(unhide HK2).trans K3;clear N3 B3 K3 cw c30 c31;refine Stp.go ?_))
 constructor
 go_wp2_with fail
 go_ret
 exact⟨v,ln,rfl,unhide HN,unhide HB3,(unhide H).row1 (unhide HK3),(unhide HK3).mono (by simp),Grw.refl _ _⟩
theorem rel_a1 (s:Lo) (ln:Value) (b:Nat) (L:List Wi) (n:Nat) (c:Int) (w:World) (h:Sd w b ln s L) (hn:n<8) (hF:¬s.hk=3) (hw:(s.give n).wa n=false) (hS:(s.give n).sends=false):Calls Try.prog 51 #[P0 b,.int .i64 n,.int .i64 c] w (LC b ln w ((s.give n),L,[])):=by
 have H:=hide h
 have hnI:(n:Int)<8:=by omega
 have P46:=t46 (n:=n) (by omega)
 have c2:=fits_cell h.blk 2 _ rfl
 have P49:=hide (flushes49 s ln b w h.blk)
 rw [show decide (s.hk=3)=false by simpa using hF] at P49
 clear hF
 have HW:=hide hw
 clear hw h
 have HSe:=hide hS
 clear hS
 go_enter Try.func51,Try.ntmps51
 go_wp2_with (first |(go_at_call 68;refine(none40 s ln b _ ((unhide H).blk)).mono ?_;rintro e W11 ⟨rfl,q11⟩;replace q11:=q11.symm;subst q11;refine Stp.go ?_))
 constructor
 go_wp2_with (first |(go_at_call 76;refine(unhide (P46 _)).mono ?_;rintro e W12 ⟨rfl,q12⟩;replace q12:=q12.symm;subst q12;refine Stp.go ?_))
 constructor
 go_wp2_with (first |(go_at_call 83;refine(unhide P49).mono ?_;rintro e W13 ⟨rfl,q13⟩;replace q13:=q13.symm;subst q13;refine Stp.go ?_))
 constructor
 go_wp2_with (first |(go_at_call 77;refine(give50 s ln b n _ (unhide H).blk hn).mono ?_;rintro e W2 ⟨rfl,B2,K2⟩;have HB2:=hide B2;have HK2:=hide K2;have cw:W2.cell? ⟨b,32+n,none⟩=some (.bool false):=(by have h9:=B2.wa hn;rw [unhide HW] at h9;exact h9);clear B2 K2 c2;refine Stp.go ?_))
 constructor
 go_wp2_with (first |(go_at_call 79;refine(sends52 (s.give n) ln b _ (unhide HB2)).mono ?_;rintro e W14 ⟨rfl,q14⟩;replace q14:=q14.symm;subst q14;rw [unhide HSe];refine Stp.go ?_))
 constructor
 go_wp2_with fail
 go_ret
 exact⟨_,ln,rfl,New.nil _ _ _ _,unhide HB2,(unhide H).row1 (unhide HK2),(unhide HK2).mono (by simp),Grw.refl _ _⟩
theorem rel_a2 (s:Lo) (ln:Value) (b:Nat) (L:List Wi) (n:Nat) (c:Int) (w:World) (h:Sd w b ln s L) (hn:n<8) (hF:s.hk=3) (hO:¬(n:Int)=s.ow) (hw:(s.give n).wa n=false) (hS:(s.give n).sends=false):Calls Try.prog 51 #[P0 b,.int .i64 n,.int .i64 c] w (LC b ln w ((s.give n),L,[])):=by
 have H:=hide h
 have hnI:(n:Int)<8:=by omega
 have P46:=t46 (n:=n) (by omega)
 have c2:=fits_cell h.blk 2 _ rfl
 have P49:=hide (flushes49 s ln b w h.blk)
 rw [show decide (s.hk=3)=true by simpa using hF] at P49
 clear hF
 have hOa:decide ((n:Int)=s.ow)=false:=nef_a hO
 have hOb:((n:Int) == s.ow)=false:=nef_b hO
 have hOc:((n:Int) !=s.ow)=true:=nef_c hO
 have HW:=hide hw
 clear hw h
 have HSe:=hide hS
 clear hS
 go_enter Try.func51,Try.ntmps51
 go_wp2_with (first |(go_at_call 68;refine(none40 s ln b _ ((unhide H).blk)).mono ?_;rintro e W11 ⟨rfl,q11⟩;replace q11:=q11.symm;subst q11;refine Stp.go ?_))
 constructor
 go_wp2_with (first |(go_at_call 76;refine(unhide (P46 _)).mono ?_;rintro e W12 ⟨rfl,q12⟩;replace q12:=q12.symm;subst q12;refine Stp.go ?_))
 constructor
 go_wp2_with (first |(go_at_call 83;refine(unhide P49).mono ?_;rintro e W13 ⟨rfl,q13⟩;replace q13:=q13.symm;subst q13;refine Stp.go ?_))
 constructor
 go_wp2_with (first |(go_at_call 77;refine(give50 s ln b n _ (unhide H).blk hn).mono ?_;rintro e W2 ⟨rfl,B2,K2⟩;have HB2:=hide B2;have HK2:=hide K2;have cw:W2.cell? ⟨b,32+n,none⟩=some (.bool false):=(by have h9:=B2.wa hn;rw [unhide HW] at h9;exact h9);clear B2 K2 c2;refine Stp.go ?_))
 constructor
 go_wp2_with (first |(go_at_call 79;refine(sends52 (s.give n) ln b _ (unhide HB2)).mono ?_;rintro e W14 ⟨rfl,q14⟩;replace q14:=q14.symm;subst q14;rw [unhide HSe];refine Stp.go ?_))
 constructor
 go_wp2_with fail
 go_ret
 exact⟨_,ln,rfl,New.nil _ _ _ _,unhide HB2,(unhide H).row1 (unhide HK2),(unhide HK2).mono (by simp),Grw.refl _ _⟩
theorem rel_a3 (s:Lo) (ln:Value) (b:Nat) (L:List Wi) (n:Nat) (c:Int) (w:World) (h:Sd w b ln s L) (hn:n<8) (hF:s.hk=3) (hO:(n:Int)=s.ow) (hw:(s.give n).wa n=false) (hS:(s.give n).sends=false):Calls Try.prog 51 #[P0 b,.int .i64 n,.int .i64 c] w (LC b ln w (more (s.give n).needless.2 (nextP (s.give n).needless.1 L))):=by
 have H:=hide h
 have hnI:(n:Int)<8:=by omega
 have P46:=t46 (n:=n) (by omega)
 have c2:=fits_cell h.blk 2 _ rfl
 have P49:=hide (flushes49 s ln b w h.blk)
 rw [show decide (s.hk=3)=true by simpa using hF] at P49
 clear hF
 rw [← hO] at c2
 clear hO
 have HW:=hide hw
 clear hw h
 have HSe:=hide hS
 clear hS
 go_enter Try.func51,Try.ntmps51
 go_wp2_with (first |(go_at_call 68;refine(none40 s ln b _ ((unhide H).blk)).mono ?_;rintro e W11 ⟨rfl,q11⟩;replace q11:=q11.symm;subst q11;refine Stp.go ?_))
 constructor
 go_wp2_with (first |(go_at_call 76;refine(unhide (P46 _)).mono ?_;rintro e W12 ⟨rfl,q12⟩;replace q12:=q12.symm;subst q12;refine Stp.go ?_))
 constructor
 go_wp2_with (first |(go_at_call 83;refine(unhide P49).mono ?_;rintro e W13 ⟨rfl,q13⟩;replace q13:=q13.symm;subst q13;refine Stp.go ?_))
 constructor
 go_wp2_with (first |(go_at_call 77;refine(give50 s ln b n _ (unhide H).blk hn).mono ?_;rintro e W2 ⟨rfl,B2,K2⟩;have HB2:=hide B2;have HK2:=hide K2;have cw:W2.cell? ⟨b,32+n,none⟩=some (.bool false):=(by have h9:=B2.wa hn;rw [unhide HW] at h9;exact h9);clear B2 K2 c2;refine Stp.go ?_))
 constructor
 go_wp2_with (first |(go_at_call 79;refine(sends52 (s.give n) ln b _ (unhide HB2)).mono ?_;rintro e W14 ⟨rfl,q14⟩;replace q14:=q14.symm;subst q14;rw [unhide HSe];refine Stp.go ?_))
 constructor
 go_wp2_with (first |(go_at_call 85;refine(needless54 (s.give n) ln b _ (unhide HB2) (give_ok (unhide H).ok n)).mono ?_;rintro e W3 ⟨v3,rfl,N3,B3,K3⟩;have HN3:=hide (N3.elder (w:=w) (unhide HK2).size);have HB3:=hide B3;have HK3:Hid (Kept [b] w W3):=(unhide HK2).trans K3;clear N3 B3 K3 cw;refine Stp.go ?_))
 constructor
 go_wp2_with (first |(go_at_call 86;refine(next55 (s.give n).needless.1 ln b L _ (unhide HB3) (needless_ok (give_ok (unhide H).ok n)) ((unhide H).row1 (unhide HK3)) (unhide H).all (by show 0≤s.op∧s.op+L.length≤1000000;have:=(unhide H).op0;have:=(unhide H).op1;omega) (by have:=(unhide H).len;omega)).mono ?_;rintro e W4 ⟨v4,ln2,rfl,N4,B4,R4,K4,S4⟩;have HN4:=hide N4.row;have HO3:Hid (Ou w W4 v3 (s.give n).needless.2):=(unhide HN3).kept K4 (fun k hk=>by have:=(unhide H).blk.lt;simp;omega);have HB4:=hide B4;have HR4:=hide R4;have HK4:Hid (Kept [b] w W4):=(unhide HK3).trans K4;have HS4:=hide S4;clear N4 B4 R4 K4 S4 HN3;refine Stp.go ?_))
 constructor
 go_wp2_with (first |(refine wpAppN el28 rfl (.tmp 64) (.tmp 66) rfl v3 _ _ rfl (unhide HO3) v4 _ _ rfl (unhide HN4) (odC_one _) (by have:=nextP_len L (s.give n).needless.1;have:=(unhide H).len;have:(s.give n).needless.2.length=1:=rfl;omega) (max1000 (by have:=nextP_len L (s.give n).needless.1;have:=(unhide H).len;have:(s.give n).needless.2.length=1:=rfl;omega)) (unhide HK4).size ?_;intro v5 W5 N5 K5;have HO5:Hid (Ou w W5 v5 ((s.give n).needless.2++(nextP (s.give n).needless.1 L).2.2)):=New.app N5;have HB5:Hid (Blk W5 b 108 ((nextP (s.give n).needless.1 L).1.C ln2)):=(unhide HB4).kept K5 (fun hi=>by have:=(unhide HO3).spare b hi;have:=(unhide H).blk.lt;omega);have HR5:Hid (Ws W5 ln2 (nextP (s.give n).needless.1 L).2.1):=(unhide HR4).kept K5 ((unhide HR4).apart (unhide HO3).row (by decide));have HK5:Hid (Kept [b] w W5):=(unhide HK4).fresh K5 (fun i hi hl=>by have:=(unhide HO3).spare i hi;omega);clear N5 K5;refine Stp.go ?_))
 constructor
 go_wp2_with fail
 go_ret
 exact⟨v5,ln2,rfl,unhide HO5,unhide HB5,unhide HR5,(unhide HK5).mono (by simp),(unhide HS4).grw⟩
theorem rel_b1 (s:Lo) (ln:Value) (b:Nat) (L:List Wi) (n:Nat) (c:Int) (w:World) (h:Sd w b ln s L) (hn:n<8) (hF:¬s.hk=3) (hw:(s.give n).wa n=false) (hS:(s.give n).sends=true) (hu:¬(n:Int)=s.su):Calls Try.prog 51 #[P0 b,.int .i64 n,.int .i64 c] w (LC b ln w ((s.give n),L,[])):=by
 have H:=hide h
 have hnI:(n:Int)<8:=by omega
 have P46:=t46 (n:=n) (by omega)
 have c2:=fits_cell h.blk 2 _ rfl
 have P49:=hide (flushes49 s ln b w h.blk)
 rw [show decide (s.hk=3)=false by simpa using hF] at P49
 clear hF
 have HW:=hide hw
 clear hw h
 have HSe:=hide hS
 clear hS
 have hua:decide ((n:Int)=s.su)=false:=nef_a hu
 have hub:((n:Int) == s.su)=false:=nef_b hu
 have huc:((n:Int) !=s.su)=true:=nef_c hu
 go_enter Try.func51,Try.ntmps51
 go_wp2_with (first |(go_at_call 68;refine(none40 s ln b _ ((unhide H).blk)).mono ?_;rintro e W11 ⟨rfl,q11⟩;replace q11:=q11.symm;subst q11;refine Stp.go ?_))
 constructor
 go_wp2_with (first |(go_at_call 76;refine(unhide (P46 _)).mono ?_;rintro e W12 ⟨rfl,q12⟩;replace q12:=q12.symm;subst q12;refine Stp.go ?_))
 constructor
 go_wp2_with (first |(go_at_call 83;refine(unhide P49).mono ?_;rintro e W13 ⟨rfl,q13⟩;replace q13:=q13.symm;subst q13;refine Stp.go ?_))
 constructor
 go_wp2_with (first |(go_at_call 77;refine(give50 s ln b n _ (unhide H).blk hn).mono ?_;rintro e W2 ⟨rfl,B2,K2⟩;have HB2:=hide B2;have HK2:=hide K2;have cw:W2.cell? ⟨b,32+n,none⟩=some (.bool false):=(by have h9:=B2.wa hn;rw [unhide HW] at h9;exact h9);have c31:W2.cell? ⟨b,31,none⟩=some (.int .i64 s.su):=fits_cell B2 31 _ rfl;clear B2 K2 c2;refine Stp.go ?_))
 constructor
 go_wp2_with (first |(go_at_call 79;refine(sends52 (s.give n) ln b _ (unhide HB2)).mono ?_;rintro e W14 ⟨rfl,q14⟩;replace q14:=q14.symm;subst q14;rw [unhide HSe];refine Stp.go ?_))
 constructor
 go_wp2_with fail
 go_ret
 exact⟨_,ln,rfl,New.nil _ _ _ _,unhide HB2,(unhide H).row1 (unhide HK2),(unhide HK2).mono (by simp),Grw.refl _ _⟩
theorem rel_b2 (s:Lo) (ln:Value) (b:Nat) (L:List Wi) (n:Nat) (c:Int) (w:World) (h:Sd w b ln s L) (hn:n<8) (hF:s.hk=3) (hO:¬(n:Int)=s.ow) (hw:(s.give n).wa n=false) (hS:(s.give n).sends=true) (hu:¬(n:Int)=s.su):Calls Try.prog 51 #[P0 b,.int .i64 n,.int .i64 c] w (LC b ln w ((s.give n),L,[])):=by
 have H:=hide h
 have hnI:(n:Int)<8:=by omega
 have P46:=t46 (n:=n) (by omega)
 have c2:=fits_cell h.blk 2 _ rfl
 have P49:=hide (flushes49 s ln b w h.blk)
 rw [show decide (s.hk=3)=true by simpa using hF] at P49
 clear hF
 have hOa:decide ((n:Int)=s.ow)=false:=nef_a hO
 have hOb:((n:Int) == s.ow)=false:=nef_b hO
 have hOc:((n:Int) !=s.ow)=true:=nef_c hO
 have HW:=hide hw
 clear hw h
 have HSe:=hide hS
 clear hS
 have hua:decide ((n:Int)=s.su)=false:=nef_a hu
 have hub:((n:Int) == s.su)=false:=nef_b hu
 have huc:((n:Int) !=s.su)=true:=nef_c hu
 go_enter Try.func51,Try.ntmps51
 go_wp2_with (first |(go_at_call 68;refine(none40 s ln b _ ((unhide H).blk)).mono ?_;rintro e W11 ⟨rfl,q11⟩;replace q11:=q11.symm;subst q11;refine Stp.go ?_))
 constructor
 go_wp2_with (first |(go_at_call 76;refine(unhide (P46 _)).mono ?_;rintro e W12 ⟨rfl,q12⟩;replace q12:=q12.symm;subst q12;refine Stp.go ?_))
 constructor
 go_wp2_with (first |(go_at_call 83;refine(unhide P49).mono ?_;rintro e W13 ⟨rfl,q13⟩;replace q13:=q13.symm;subst q13;refine Stp.go ?_))
 constructor
 go_wp2_with (first |(go_at_call 77;refine(give50 s ln b n _ (unhide H).blk hn).mono ?_;rintro e W2 ⟨rfl,B2,K2⟩;have HB2:=hide B2;have HK2:=hide K2;have cw:W2.cell? ⟨b,32+n,none⟩=some (.bool false):=(by have h9:=B2.wa hn;rw [unhide HW] at h9;exact h9);have c31:W2.cell? ⟨b,31,none⟩=some (.int .i64 s.su):=fits_cell B2 31 _ rfl;clear B2 K2 c2;refine Stp.go ?_))
 constructor
 go_wp2_with (first |(go_at_call 79;refine(sends52 (s.give n) ln b _ (unhide HB2)).mono ?_;rintro e W14 ⟨rfl,q14⟩;replace q14:=q14.symm;subst q14;rw [unhide HSe];refine Stp.go ?_))
 constructor
 go_wp2_with fail
 go_ret
 exact⟨_,ln,rfl,New.nil _ _ _ _,unhide HB2,(unhide H).row1 (unhide HK2),(unhide HK2).mono (by simp),Grw.refl _ _⟩
theorem rel_b3 (s:Lo) (ln:Value) (b:Nat) (L:List Wi) (n:Nat) (c:Int) (w:World) (h:Sd w b ln s L) (hn:n<8) (hF:s.hk=3) (hO:(n:Int)=s.ow) (hw:(s.give n).wa n=false) (hS:(s.give n).sends=true) (hu:¬(n:Int)=s.su):Calls Try.prog 51 #[P0 b,.int .i64 n,.int .i64 c] w (LC b ln w (more (s.give n).needless.2 (nextP (s.give n).needless.1 L))):=by
 have H:=hide h
 have hnI:(n:Int)<8:=by omega
 have P46:=t46 (n:=n) (by omega)
 have c2:=fits_cell h.blk 2 _ rfl
 have P49:=hide (flushes49 s ln b w h.blk)
 rw [show decide (s.hk=3)=true by simpa using hF] at P49
 clear hF
 rw [← hO] at c2
 clear hO
 have HW:=hide hw
 clear hw h
 have HSe:=hide hS
 clear hS
 have hua:decide ((n:Int)=s.su)=false:=nef_a hu
 have hub:((n:Int) == s.su)=false:=nef_b hu
 have huc:((n:Int) !=s.su)=true:=nef_c hu
 go_enter Try.func51,Try.ntmps51
 go_wp2_with (first |(go_at_call 68;refine(none40 s ln b _ ((unhide H).blk)).mono ?_;rintro e W11 ⟨rfl,q11⟩;replace q11:=q11.symm;subst q11;refine Stp.go ?_))
 constructor
 go_wp2_with (first |(go_at_call 76;refine(unhide (P46 _)).mono ?_;rintro e W12 ⟨rfl,q12⟩;replace q12:=q12.symm;subst q12;refine Stp.go ?_))
 constructor
 go_wp2_with (first |(go_at_call 83;refine(unhide P49).mono ?_;rintro e W13 ⟨rfl,q13⟩;replace q13:=q13.symm;subst q13;refine Stp.go ?_))
 constructor
 go_wp2_with (first |(go_at_call 77;refine(give50 s ln b n _ (unhide H).blk hn).mono ?_;rintro e W2 ⟨rfl,B2,K2⟩;have HB2:=hide B2;have HK2:=hide K2;have cw:W2.cell? ⟨b,32+n,none⟩=some (.bool false):=(by have h9:=B2.wa hn;rw [unhide HW] at h9;exact h9);have c31:W2.cell? ⟨b,31,none⟩=some (.int .i64 s.su):=fits_cell B2 31 _ rfl;clear B2 K2 c2;refine Stp.go ?_))
 constructor
 go_wp2_with (first |(go_at_call 79;refine(sends52 (s.give n) ln b _ (unhide HB2)).mono ?_;rintro e W14 ⟨rfl,q14⟩;replace q14:=q14.symm;subst q14;rw [unhide HSe];refine Stp.go ?_))
 constructor
 go_wp2_with (first |(go_at_call 85;refine(needless54 (s.give n) ln b _ (unhide HB2) (give_ok (unhide H).ok n)).mono ?_;rintro e W3 ⟨v3,rfl,N3,B3,K3⟩;have HN3:=hide (N3.elder (w:=w) (unhide HK2).size);have HB3:=hide B3;have HK3:Hid (Kept [b] w W3):=(unhide HK2).trans K3;clear N3 B3 K3 cw c31;refine Stp.go ?_))
 constructor
 go_wp2_with (first |(go_at_call 86;refine(next55 (s.give n).needless.1 ln b L _ (unhide HB3) (needless_ok (give_ok (unhide H).ok n)) ((unhide H).row1 (unhide HK3)) (unhide H).all (by show 0≤s.op∧s.op+L.length≤1000000;have:=(unhide H).op0;have:=(unhide H).op1;omega) (by have:=(unhide H).len;omega)).mono ?_;rintro e W4 ⟨v4,ln2,rfl,N4,B4,R4,K4,S4⟩;have HN4:=hide N4.row;have HO3:Hid (Ou w W4 v3 (s.give n).needless.2):=(unhide HN3).kept K4 (fun k hk=>by have:=(unhide H).blk.lt;simp;omega);have HB4:=hide B4;have HR4:=hide R4;have HK4:Hid (Kept [b] w W4):=(unhide HK3).trans K4;have HS4:=hide S4;clear N4 B4 R4 K4 S4 HN3;refine Stp.go ?_))
 constructor
 go_wp2_with (first |(refine wpAppN el28 rfl (.tmp 64) (.tmp 66) rfl v3 _ _ rfl (unhide HO3) v4 _ _ rfl (unhide HN4) (odC_one _) (by have:=nextP_len L (s.give n).needless.1;have:=(unhide H).len;have:(s.give n).needless.2.length=1:=rfl;omega) (max1000 (by have:=nextP_len L (s.give n).needless.1;have:=(unhide H).len;have:(s.give n).needless.2.length=1:=rfl;omega)) (unhide HK4).size ?_;intro v5 W5 N5 K5;have HO5:Hid (Ou w W5 v5 ((s.give n).needless.2++(nextP (s.give n).needless.1 L).2.2)):=New.app N5;have HB5:Hid (Blk W5 b 108 ((nextP (s.give n).needless.1 L).1.C ln2)):=(unhide HB4).kept K5 (fun hi=>by have:=(unhide HO3).spare b hi;have:=(unhide H).blk.lt;omega);have HR5:Hid (Ws W5 ln2 (nextP (s.give n).needless.1 L).2.1):=(unhide HR4).kept K5 ((unhide HR4).apart (unhide HO3).row (by decide));have HK5:Hid (Kept [b] w W5):=(unhide HK4).fresh K5 (fun i hi hl=>by have:=(unhide HO3).spare i hi;omega);clear N5 K5;refine Stp.go ?_))
 constructor
 go_wp2_with fail
 go_ret
 exact⟨v5,ln2,rfl,unhide HO5,unhide HB5,unhide HR5,(unhide HK5).mono (by simp),(unhide HS4).grw⟩
theorem rel_c1 (s:Lo) (ln:Value) (b:Nat) (L:List Wi) (n:Nat) (c:Int) (w:World) (h:Sd w b ln s L) (hn:n<8) (hF:¬s.hk=3) (hw:(s.give n).wa n=false) (hS:(s.give n).sends=true) (hu:(n:Int)=s.su) (hc:¬c<s.op):Calls Try.prog 51 #[P0 b,.int .i64 n,.int .i64 c] w (LC b ln w ((s.give n),L,[])):=by
 have H:=hide h
 have hnI:(n:Int)<8:=by omega
 have P46:=t46 (n:=n) (by omega)
 have c2:=fits_cell h.blk 2 _ rfl
 have P49:=hide (flushes49 s ln b w h.blk)
 rw [show decide (s.hk=3)=false by simpa using hF] at P49
 clear hF
 have HW:=hide hw
 clear hw h
 have HSe:=hide hS
 clear hS
 have HU:=hide hu
 clear hu
 have hcd:decide (c<s.op)=false:=by simpa using hc
 go_enter Try.func51,Try.ntmps51
 go_wp2_with (first |(go_at_call 68;refine(none40 s ln b _ ((unhide H).blk)).mono ?_;rintro e W11 ⟨rfl,q11⟩;replace q11:=q11.symm;subst q11;refine Stp.go ?_))
 constructor
 go_wp2_with (first |(go_at_call 76;refine(unhide (P46 _)).mono ?_;rintro e W12 ⟨rfl,q12⟩;replace q12:=q12.symm;subst q12;refine Stp.go ?_))
 constructor
 go_wp2_with (first |(go_at_call 83;refine(unhide P49).mono ?_;rintro e W13 ⟨rfl,q13⟩;replace q13:=q13.symm;subst q13;refine Stp.go ?_))
 constructor
 go_wp2_with (first |(go_at_call 77;refine(give50 s ln b n _ (unhide H).blk hn).mono ?_;rintro e W2 ⟨rfl,B2,K2⟩;have HB2:=hide B2;have HK2:=hide K2;have cw:W2.cell? ⟨b,32+n,none⟩=some (.bool false):=(by have h9:=B2.wa hn;rw [unhide HW] at h9;exact h9);have c31:W2.cell? ⟨b,31,none⟩=some (.int .i64 (n:Int)):=(by rw [unhide HU];exact fits_cell B2 31 _ rfl);have c30:W2.cell? ⟨b,30,none⟩=some (.int .i64 s.op):=fits_cell B2 30 _ rfl;clear B2 K2 c2;refine Stp.go ?_))
 constructor
 go_wp2_with (first |(go_at_call 79;refine(sends52 (s.give n) ln b _ (unhide HB2)).mono ?_;rintro e W14 ⟨rfl,q14⟩;replace q14:=q14.symm;subst q14;rw [unhide HSe];refine Stp.go ?_))
 constructor
 go_wp2_with fail
 go_ret
 exact⟨_,ln,rfl,New.nil _ _ _ _,unhide HB2,(unhide H).row1 (unhide HK2),(unhide HK2).mono (by simp),Grw.refl _ _⟩
theorem rel_c2 (s:Lo) (ln:Value) (b:Nat) (L:List Wi) (n:Nat) (c:Int) (w:World) (h:Sd w b ln s L) (hn:n<8) (hF:s.hk=3) (hO:¬(n:Int)=s.ow) (hw:(s.give n).wa n=false) (hS:(s.give n).sends=true) (hu:(n:Int)=s.su) (hc:¬c<s.op):Calls Try.prog 51 #[P0 b,.int .i64 n,.int .i64 c] w (LC b ln w ((s.give n),L,[])):=by
 have H:=hide h
 have hnI:(n:Int)<8:=by omega
 have P46:=t46 (n:=n) (by omega)
 have c2:=fits_cell h.blk 2 _ rfl
 have P49:=hide (flushes49 s ln b w h.blk)
 rw [show decide (s.hk=3)=true by simpa using hF] at P49
 clear hF
 have hOa:decide ((n:Int)=s.ow)=false:=nef_a hO
 have hOb:((n:Int) == s.ow)=false:=nef_b hO
 have hOc:((n:Int) !=s.ow)=true:=nef_c hO
 have HW:=hide hw
 clear hw h
 have HSe:=hide hS
 clear hS
 have HU:=hide hu
 clear hu
 have hcd:decide (c<s.op)=false:=by simpa using hc
 go_enter Try.func51,Try.ntmps51
 go_wp2_with (first |(go_at_call 68;refine(none40 s ln b _ ((unhide H).blk)).mono ?_;rintro e W11 ⟨rfl,q11⟩;replace q11:=q11.symm;subst q11;refine Stp.go ?_))
 constructor
 go_wp2_with (first |(go_at_call 76;refine(unhide (P46 _)).mono ?_;rintro e W12 ⟨rfl,q12⟩;replace q12:=q12.symm;subst q12;refine Stp.go ?_))
 constructor
 go_wp2_with (first |(go_at_call 83;refine(unhide P49).mono ?_;rintro e W13 ⟨rfl,q13⟩;replace q13:=q13.symm;subst q13;refine Stp.go ?_))
 constructor
 go_wp2_with (first |(go_at_call 77;refine(give50 s ln b n _ (unhide H).blk hn).mono ?_;rintro e W2 ⟨rfl,B2,K2⟩;have HB2:=hide B2;have HK2:=hide K2;have cw:W2.cell? ⟨b,32+n,none⟩=some (.bool false):=(by have h9:=B2.wa hn;rw [unhide HW] at h9;exact h9);have c31:W2.cell? ⟨b,31,none⟩=some (.int .i64 (n:Int)):=(by rw [unhide HU];exact fits_cell B2 31 _ rfl);have c30:W2.cell? ⟨b,30,none⟩=some (.int .i64 s.op):=fits_cell B2 30 _ rfl;clear B2 K2 c2;refine Stp.go ?_))
 constructor
 go_wp2_with (first |(go_at_call 79;refine(sends52 (s.give n) ln b _ (unhide HB2)).mono ?_;rintro e W14 ⟨rfl,q14⟩;replace q14:=q14.symm;subst q14;rw [unhide HSe];refine Stp.go ?_))
 constructor
 go_wp2_with fail
 go_ret
 exact⟨_,ln,rfl,New.nil _ _ _ _,unhide HB2,(unhide H).row1 (unhide HK2),(unhide HK2).mono (by simp),Grw.refl _ _⟩
theorem rel_c3 (s:Lo) (ln:Value) (b:Nat) (L:List Wi) (n:Nat) (c:Int) (w:World) (h:Sd w b ln s L) (hn:n<8) (hF:s.hk=3) (hO:(n:Int)=s.ow) (hw:(s.give n).wa n=false) (hS:(s.give n).sends=true) (hu:(n:Int)=s.su) (hc:¬c<s.op):Calls Try.prog 51 #[P0 b,.int .i64 n,.int .i64 c] w (LC b ln w (more (s.give n).needless.2 (nextP (s.give n).needless.1 L))):=by
 have H:=hide h
 have hnI:(n:Int)<8:=by omega
 have P46:=t46 (n:=n) (by omega)
 have c2:=fits_cell h.blk 2 _ rfl
 have P49:=hide (flushes49 s ln b w h.blk)
 rw [show decide (s.hk=3)=true by simpa using hF] at P49
 clear hF
 rw [← hO] at c2
 clear hO
 have HW:=hide hw
 clear hw h
 have HSe:=hide hS
 clear hS
 have HU:=hide hu
 clear hu
 have hcd:decide (c<s.op)=false:=by simpa using hc
 go_enter Try.func51,Try.ntmps51
 go_wp2_with (first |(go_at_call 68;refine(none40 s ln b _ ((unhide H).blk)).mono ?_;rintro e W11 ⟨rfl,q11⟩;replace q11:=q11.symm;subst q11;refine Stp.go ?_))
 constructor
 go_wp2_with (first |(go_at_call 76;refine(unhide (P46 _)).mono ?_;rintro e W12 ⟨rfl,q12⟩;replace q12:=q12.symm;subst q12;refine Stp.go ?_))
 constructor
 go_wp2_with (first |(go_at_call 83;refine(unhide P49).mono ?_;rintro e W13 ⟨rfl,q13⟩;replace q13:=q13.symm;subst q13;refine Stp.go ?_))
 constructor
 go_wp2_with (first |(go_at_call 77;refine(give50 s ln b n _ (unhide H).blk hn).mono ?_;rintro e W2 ⟨rfl,B2,K2⟩;have HB2:=hide B2;have HK2:=hide K2;have cw:W2.cell? ⟨b,32+n,none⟩=some (.bool false):=(by have h9:=B2.wa hn;rw [unhide HW] at h9;exact h9);have c31:W2.cell? ⟨b,31,none⟩=some (.int .i64 (n:Int)):=(by rw [unhide HU];exact fits_cell B2 31 _ rfl);have c30:W2.cell? ⟨b,30,none⟩=some (.int .i64 s.op):=fits_cell B2 30 _ rfl;clear B2 K2 c2;refine Stp.go ?_))
 constructor
 go_wp2_with (first |(go_at_call 79;refine(sends52 (s.give n) ln b _ (unhide HB2)).mono ?_;rintro e W14 ⟨rfl,q14⟩;replace q14:=q14.symm;subst q14;rw [unhide HSe];refine Stp.go ?_))
 constructor
 go_wp2_with (first |(go_at_call 85;refine(needless54 (s.give n) ln b _ (unhide HB2) (give_ok (unhide H).ok n)).mono ?_;rintro e W3 ⟨v3,rfl,N3,B3,K3⟩;have HN3:=hide (N3.elder (w:=w) (unhide HK2).size);have HB3:=hide B3;have HK3:Hid (Kept [b] w W3):=(unhide HK2).trans K3;clear N3 B3 K3 cw c30 c31;refine Stp.go ?_))
 constructor
 go_wp2_with (first |(go_at_call 86;refine(next55 (s.give n).needless.1 ln b L _ (unhide HB3) (needless_ok (give_ok (unhide H).ok n)) ((unhide H).row1 (unhide HK3)) (unhide H).all (by show 0≤s.op∧s.op+L.length≤1000000;have:=(unhide H).op0;have:=(unhide H).op1;omega) (by have:=(unhide H).len;omega)).mono ?_;rintro e W4 ⟨v4,ln2,rfl,N4,B4,R4,K4,S4⟩;have HN4:=hide N4.row;have HO3:Hid (Ou w W4 v3 (s.give n).needless.2):=(unhide HN3).kept K4 (fun k hk=>by have:=(unhide H).blk.lt;simp;omega);have HB4:=hide B4;have HR4:=hide R4;have HK4:Hid (Kept [b] w W4):=(unhide HK3).trans K4;have HS4:=hide S4;clear N4 B4 R4 K4 S4 HN3;refine Stp.go ?_))
 constructor
 go_wp2_with (first |(refine wpAppN el28 rfl (.tmp 64) (.tmp 66) rfl v3 _ _ rfl (unhide HO3) v4 _ _ rfl (unhide HN4) (odC_one _) (by have:=nextP_len L (s.give n).needless.1;have:=(unhide H).len;have:(s.give n).needless.2.length=1:=rfl;omega) (max1000 (by have:=nextP_len L (s.give n).needless.1;have:=(unhide H).len;have:(s.give n).needless.2.length=1:=rfl;omega)) (unhide HK4).size ?_;intro v5 W5 N5 K5;have HO5:Hid (Ou w W5 v5 ((s.give n).needless.2++(nextP (s.give n).needless.1 L).2.2)):=New.app N5;have HB5:Hid (Blk W5 b 108 ((nextP (s.give n).needless.1 L).1.C ln2)):=(unhide HB4).kept K5 (fun hi=>by have:=(unhide HO3).spare b hi;have:=(unhide H).blk.lt;omega);have HR5:Hid (Ws W5 ln2 (nextP (s.give n).needless.1 L).2.1):=(unhide HR4).kept K5 ((unhide HR4).apart (unhide HO3).row (by decide));have HK5:Hid (Kept [b] w W5):=(unhide HK4).fresh K5 (fun i hi hl=>by have:=(unhide HO3).spare i hi;omega);clear N5 K5;refine Stp.go ?_))
 constructor
 go_wp2_with fail
 go_ret
 exact⟨v5,ln2,rfl,unhide HO5,unhide HB5,unhide HR5,(unhide HK5).mono (by simp),(unhide HS4).grw⟩
theorem rel22 (s:Lo) (ln:Value) (b:Nat) (L:List Wi) (m c:Int) (w:World) (h:Sd w b ln s L):Calls Try.prog 51 #[P0 b,.int .i64 m,.int .i64 c] w (LC b ln w (relP s L m c)):=by
 unfold relP
 cases hm:isN m with
 | false=>rw [if_neg (by simp)];exact rel_a s ln b L m c w h hm
 | true=>
   have h1:0≤m∧m<8:=by simpa [isN] using hm
   obtain⟨n,rfl⟩:∃n:Nat,m=n:=⟨m.toNat,by omega⟩
   have hn:n<8:=by omega
   rw [if_pos rfl]
   simp only [Int.toNat_natCast]
   unfold relN
   have key:∀ {P:Prop},(s.hk≠3→P)→(s.hk=3→(n:Int)≠s.ow→P)→(s.hk=3→(n:Int)=s.ow→P)→P:=by
     intro P a1 a2 a3
     by_cases e1:s.hk=3
     · by_cases e2:(n:Int)=s.ow
       · exact a3 e1 e2
       · exact a2 e1 e2
     · exact a1 e1
   cases hw:(s.give n).wa n with
   | true=>
     rw [if_pos rfl]
     exact key (fun e=>rel_d1 s ln b L n c w h hn e hw) (fun e e2=>rel_d2 s ln b L n c w h hn e e2 hw) (fun e e2=>rel_d3 s ln b L n c w h hn e e2 hw)
   | false=>
     rw [if_neg (by simp)]
     cases hS:(s.give n).sends with
     | false=>
       rw [if_neg (by simp)]
       exact key (fun e=>by rw [if_neg (by simp [e])];exact rel_a1 s ln b L n c w h hn e hw hS) (fun e e2=>by rw [if_neg (by simp [e2])];exact rel_a2 s ln b L n c w h hn e e2 hw hS) (fun e e2=>by rw [if_pos ⟨e,e2⟩];exact rel_a3 s ln b L n c w h hn e e2 hw hS)
     | true=>
       by_cases hu:(n:Int)=s.su
       · by_cases hc:c<s.op
         · rw [if_pos ⟨rfl,hu,hc⟩]
           exact key (fun e=>rel_e1 s ln b L n c w h hn e hw hS hu hc) (fun e e2=>rel_e2 s ln b L n c w h hn e e2 hw hS hu hc) (fun e e2=>rel_e3 s ln b L n c w h hn e e2 hw hS hu hc)
         · rw [if_neg (by simp;omega)]
           exact key (fun e=>by rw [if_neg (by simp [e])];exact rel_c1 s ln b L n c w h hn e hw hS hu hc) (fun e e2=>by rw [if_neg (by simp [e2])];exact rel_c2 s ln b L n c w h hn e e2 hw hS hu hc) (fun e e2=>by rw [if_pos ⟨e,e2⟩];exact rel_c3 s ln b L n c w h hn e e2 hw hS hu hc)
       · rw [if_neg (by simp [hu])]
         exact key (fun e=>by rw [if_neg (by simp [e])];exact rel_b1 s ln b L n c w h hn e hw hS hu) (fun e e2=>by rw [if_neg (by simp [e2])];exact rel_b2 s ln b L n c w h hn e e2 hw hS hu) (fun e e2=>by rw [if_pos ⟨e,e2⟩];exact rel_b3 s ln b L n c w h hn e e2 hw hS hu)
end Go.Proofs.Ytbigongmlpoahaa

/-
  A sum rounded up or not; a sum bounded.
-/
import Derived.Test.YtcefcokpjbebhaaGreatDoorM11
import Derived.ChangeKeysEq
import Derived.Deep.RegionWith
set_option linter.unusedSimpArgs false
set_option linter.unusedVariables false
set_option maxHeartbeats 1000000
namespace Go.Proofs.YtcefcokpjbebhaaGreatDoor
open Go.RowKit Qn
namespace Qn
def In3(n:Int):Prop:= -3138550867693340381917894711603833208051177722232017256448<=n/\n<3138550867693340381917894711603833208051177722232017256448
theorem info_u64:(Tryz.prog.info? 78).isSome=true:=by kernel_rfl
theorem run_item(xs ys:Array Value)(i:Nat)(is:List Nat)(a b:Int)(hx:xs[i]?=some (.int .u64 a))(hy:ys[i]?=some (.int .u64 b))(w:World)(d:Nat):
 (Op.eqItems (d+1) 78 1 xs ys (i::is)).run Tryz.prog w=if(a==b)=true then(Op.eqItems (d+1) 78 1 xs ys is).run Tryz.prog w else .ok false w:=by
 have px:(Go.part 78 xs (i*1)).run Tryz.prog w= .ok (.int .u64 a) w:=by
  simp [Go.part,isAgg,run_underlying Tryz.underlying78,hx]
 have py:(Go.part 78 ys (i*1)).run Tryz.prog w= .ok (.int .u64 b) w:=by
  simp [Go.part,isAgg,run_underlying Tryz.underlying78,hy]
 have pe:(Op.equalIn (d+1) 78 (.int .u64 a) (.int .u64 b)).run Tryz.prog w= .ok (a==b) w:=run_equalIn_int w d 78 .u64 .u64 a b Tryz.underlying78;simp only [Op.eqItems,Sem.run_bind,px,py,pe,Result.andThen_ok];cases(a==b)<;>simp
theorem run_items3(x0 x1 x2 y0 y1 y2:Int)(w:World)(d:Nat):(Op.eqItems (d+1) 78 1 #[.int .u64 x0, .int .u64 x1, .int .u64 x2] #[.int .u64 y0, .int .u64 y1, .int .u64 y2] [0,1,2]).run Tryz.prog w= .ok (x0==y0 && (x1==y1 && x2==y2)) w:=by
 rw [run_item _ _ 0 _ x0 y0 rfl rfl,run_item _ _ 1 _ x1 y1 rfl rfl,run_item _ _ 2 _ x2 y2 rfl rfl];cases(x0==y0)<;>cases(x1==y1)<;>cases(x2==y2)<;>simp [Op.eqItems]
theorem run_eql3(x0 x1 x2 y0 y1 y2:Int)(w:World):(binOp .eql 334 (.agg #[.int .u64 x0, .int .u64 x1, .int .u64 x2]) (.agg #[.int .u64 y0, .int .u64 y1, .int .u64 y2])).run Tryz.prog w= .ok (.bool (x0==y0 && (x1==y1 && x2==y2))) w:=by
 obtain⟨i,hi⟩: ∃ i,Tryz.prog.info? 78=some i:=by
  cases h:Tryz.prog.info? 78 with
  |none=>have:=info_u64;rw [h] at this;cases this
  |some i=>exact⟨i,rfl⟩
 have hc:Tryz.prog.cellsOf 78=1:=by kernel_rfl
 rw [run_eql_struct,run_equalIn_array w 9999 _ _ Tryz.underlying334 hi,hc];rw [show List.range 3= [0,1,2] from rfl,run_items3 x0 x1 x2 y0 y1 y2 w 9998];rfl
end Qn
theorem qdFa1{p:Prop}(h:p:=by
 clear h2 h4 h1;go_enter Tryz.func292,Tryz.ntmps292
 go_wp2_with fail
 refine(hp _).mono ?_;rintro e w1 ⟨rfl,hb⟩;have S0:Row3 w1 (w.heap.size+1) 0 0 0:=(by have:=row3_new (w.alloc (Obj.cells #[Value.int IntKind.u64 (lo s),Value.int IntKind.u64 (mi s),Value.int IntKind.u64 (hi s)] 334)) 0 0 0;simpa using this:Row3 _ (w.heap.size+1) 0 0 0).keep hb;go_wp2_with (refine wpList_store3 rfl (.tmp 6) (.tmp 23) rfl _ _ _ _ _ _ _ rfl rfl S0 ?_)
 exact bodyPost_ret (v:= .agg #[.int .u64 (lo (s+1)), .int .u64 (mi (s+1)), .int .u64 (hi (s+1))]) (results_3 Tryz.results292 _ _ (w.heap.size+1) _ _ _ rfl (S0.row _ _ _)) rfl ⟨rfl,below_setRow (below_tr (below_al (below_al (Below.refl _ _) _) _) hb) (by omega) _⟩):p:=h
theorem qdFa3{p:Prop}(h:p:=by
 go_enter Tryz.func292,Tryz.ntmps292
 go_wp2
 exact bodyPost_ret (v:= .agg #[.int .u64 (lo d), .int .u64 (mi d), .int .u64 (hi d)]) (by simp [results,Tryz.results292,go_sem]) rfl ⟨rfl,below_al (below_al (Below.refl _ _) _) _⟩):p:=h
theorem rounded_any(s b c:Int)(w:World)(hb0:0<=b)(hb1:b<=18446744073709551615)(hc0:0<=c)(hc1:c<=18446744073709551615)(d:Int)(hd:Hid (d=if b<c\/b=c/\s%2=0 then s else s+1)):
 Calls Tryz.prog 292 #[.agg #[.int .u64 (lo s), .int .u64 (mi s), .int .u64 (hi s)], .int .u64 b, .int .u64 c] w fun e w'=>e= .returned (.agg #[.int .u64 (lo d), .int .u64 (mi d), .int .u64 (hi d)])/\Below w.heap.size w w':=by
 have lb:=lo_bd s;by_cases h1:b<c
 · have h1b:decide (b<c)=true:=decide_eq_true h1;have hd':d=s:=by rw [hd.out,if_pos (Or.inl h1)]
   clear hd;subst hd';exact qdFa3
 · have h1b:decide (b<c)=false:=decide_eq_false h1;by_cases h2:b=c/\s%2=0
   · have hd':d=s:=by rw [hd.out,if_pos (Or.inr h2)]
     clear hd;subst hd';obtain⟨h2,h3⟩:=h2;have h2b:(b==c)=true:=by simpa using h2
     have h3b:(lo d%2==0)=true:=by unfold lo;simp;omega
     clear h2 h3 h1;exact qdFa3
   · have hd':d=s+1:=by rw [hd.out,if_neg (by omega)]
     clear hd;subst hd';have hp:=fun wx=>qplus_any s 1 1 wx (by omega) (by omega) (by omega) (by omega);simp only [show(1:Int)*1=1 from rfl] at hp;by_cases h4:b=c
     · have h2b:(b==c)=true:=by simpa using h4
       have h3b:(lo s%2==0)=false:=by
        have:s%2≠0:=fun h=>h2 ⟨h4,h⟩;unfold lo;simp;omega
       exact qdFa1
     · have h2b:(b==c)=false:=by simpa using h4
       exact qdFa1
namespace Qn
theorem back64{n:Int}(h0: -9223372036854775808<=n)(h1:n<=9223372036854775807):wrap64 (lo n)=n:=by unfold lo;simp only [wrap64];omega
theorem wrap_bd(n:Int): -9223372036854775808<=wrap64 (lo n)/\wrap64 (lo n)<=9223372036854775807:=by unfold lo;simp only [wrap64];omega
theorem far_words{n m:Int}(hn:In3 n)(h0: -9223372036854775808<=m)(h1:m<=9223372036854775807)(hne:n< -9223372036854775808\/9223372036854775807<n):(lo n==lo m && (mi n==mi m && hi n==hi m))=false:=by
 rw [Bool.eq_false_iff];intro h;simp only [Bool.and_eq_true,beq_iff_eq] at h;unfold In3 at hn;unfold lo mi hi at h;omega
theorem sg_hi_pos{n:Int}(hn:In3 n)(h:0<=n):sg (hi n)=0:=by unfold In3 at hn;unfold sg hi;rw [if_pos (by omega)]
theorem sg_hi_neg{n:Int}(hn:In3 n)(h:n<0):sg (hi n)=18446744073709551615:=by unfold In3 at hn;unfold sg hi;rw [if_neg (by omega)]
end Qn
theorem qdFa2{p:Prop}(h:p:=by
 clear h;go_enter Tryz.func234,Tryz.ntmps234
 go_wp2;go_region_with (go_at_call 232;refine(qof_any _ _ hm.1 hm.2).mono ?_;rintro e w1 ⟨rfl,hb⟩;obtain⟨hc,hf⟩:=bcell hb)
 all_goals go_wp2_with (go_at_call 278;refine(signOf_any _ _ hb'.1 hb'.2).mono ?_;rintro e w2 ⟨rfl,rfl⟩)
 all_goals go_ret2
 all_goals exact⟨ret_ib K.out.1.symm K.out.2.symm,below_tr (below_al (Below.refl _ _) _).drew (by assumption)⟩):p:=h
theorem bounded_any(n:Int)(w:World)(hn:In3 n):
 Calls Tryz.prog 234 #[.agg #[.int .u64 (lo n), .int .u64 (mi n), .int .u64 (hi n)]] w fun e w'=>e= .returned (.tuple #[.int .i64 (clamp n), .bool (great n)])/\Below w.heap.size w w':=by
 have lb:=lo_bd n;have hb':=hi_bd n;by_cases h: -9223372036854775808<=n/\n<=9223372036854775807
 · obtain⟨h0,h1⟩:=h;have hm:=back64 h0 h1;have he: ∀ w,(binOp .eql 334 (.agg #[.int .u64 (lo n), .int .u64 (mi n), .int .u64 (hi n)]) (.agg #[.int .u64 (lo n), .int .u64 (mi n), .int .u64 (hi n)])).run Tryz.prog w= .ok (.bool true) w:=fun w=>by rw [run_eql3];simp
   go_enter Tryz.func234,Tryz.ntmps234
   go_wp2;go_region_with (go_at_call 232;refine(qof_any _ _ h0 h1).mono ?_;rintro e w1 ⟨rfl,hb⟩;obtain⟨hc,hf⟩:=bcell hb)
   all_goals go_wp2_with (go_at_call 205;refine(clamp_any _ _).mono ?_;rintro e w2 ⟨rfl,rfl⟩)
   all_goals go_ret2
   all_goals exact⟨rfl,below_tr (below_al (Below.refl _ _) _).drew (by assumption)⟩
 · obtain⟨m,hm0⟩: ∃ m,wrap64 (lo n)=m:=⟨_,rfl⟩;have hm:=wrap_bd n;rw [hm0] at hm;have hx:=far_words (m:=m) hn hm.1 hm.2 (by omega);have he: ∀ w,(binOp .eql 334 (.agg #[.int .u64 (lo n), .int .u64 (mi n), .int .u64 (hi n)]) (.agg #[.int .u64 (lo m), .int .u64 (mi m), .int .u64 (hi m)])).run Tryz.prog w= .ok (.bool false) w:=fun w=>by rw [run_eql3,hx]
   clear hx;by_cases hs:n<0
   · have s1:=sg_hi_neg hn hs
     have K:Hid (clamp n= -4611686018427387903/\great n=true):=by
      unfold Hid clamp great;rw [if_neg (by omega),if_pos (by omega),decide_eq_true (show n< -4611686018427387903 by omega)];simp
     exact qdFa2
   · have s1:=sg_hi_pos hn (by omega)
     have K:Hid (clamp n=4611686018427387903/\great n=true):=by
      unfold Hid clamp great;rw [if_pos (by omega),decide_eq_true (show 4611686018427387903<n by omega)];simp
     exact qdFa2
end Go.Proofs.YtcefcokpjbebhaaGreatDoor

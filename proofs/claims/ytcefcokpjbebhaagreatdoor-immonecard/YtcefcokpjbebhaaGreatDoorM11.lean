/-
  The product of two numbers as a sum of three words, by Go's own Mul64.
-/
import Derived.Test.YtcefcokpjbebhaaGreatDoorQA
import Derived.Lib.Mul64
import Derived.Laws.Bits64b
import Derived.Laws.Externs
set_option linter.unusedSimpArgs false
set_option linter.unusedVariables false
set_option maxHeartbeats 1000000
namespace Go.Proofs.YtcefcokpjbebhaaGreatDoor
section
open Go.RowKit Qn
namespace Qn
theorem mask32(a:Nat)(ha:a<18446744073709551616):bits .and .u64 (a:Int) 4294967295=((a%4294967296:Nat):Int):=by
 have h:=bits_and_u64_nat a 4294967295 ha (by omega);rw [show a &&& 4294967295=a%4294967296 from Nat.and_two_pow_sub_one_eq_mod a 32] at h;exact h
theorem div32(a:Nat):(a:Int)/4294967296=((a/4294967296:Nat):Int):=by omega
theorem mulN(a b:Nat):(a:Int)*(b:Int)=((a*b:Nat):Int):=(Int.natCast_mul a b).symm
theorem addN(a b:Nat):(a:Int)+(b:Int)=((a+b:Nat):Int):=(Int.natCast_add a b).symm
theorem wrapN(a:Nat)(ha:a<18446744073709551616):IntKind.u64.wrap (a:Int)=(a:Int):=by rw [IntKind.wrap_u64];omega
theorem wrapM(a:Nat):IntKind.u64.wrap (a:Int)=((a%18446744073709551616:Nat):Int):=by rw [IntKind.wrap_u64];omega
end Qn
theorem mul64_nat(x y:Nat)(hx:x<18446744073709551616)(hy:y<18446744073709551616)(w:World):
 Calls Tryz.prog 220 #[.int .u64 x, .int .u64 y] w fun e w'=>e= .returned (.tuple #[.int .u64 ((x*y/18446744073709551616:Nat):Int), .int .u64 ((x*y%18446744073709551616:Nat):Int)])/\w'=w:=by
 obtain⟨bd,bt,bw,hhi⟩:=Lib.mul64_hi x y hx hy;have ba:=Lib.half_mul_le (a:=x/4294967296) (b:=y/4294967296) (by omega) (by omega);have bb:=Lib.half_mul_le (a:=x/4294967296) (b:=y%4294967296) (by omega) (by omega);have bc:=Lib.half_mul_le (a:=x%4294967296) (b:=y/4294967296) (by omega) (by omega);have c1:x/4294967296*(y/4294967296)<18446744073709551616:=by omega
 have c2:x/4294967296*(y%4294967296)<18446744073709551616:=by omega
 have c3:x%4294967296*(y/4294967296)<18446744073709551616:=by omega
 have c4:x/4294967296*(y/4294967296)+(x/4294967296*(y%4294967296)+x%4294967296*(y%4294967296)/4294967296)/4294967296<18446744073709551616:=by omega
 have c5:x/4294967296*(y/4294967296)+(x/4294967296*(y%4294967296)+x%4294967296*(y%4294967296)/4294967296)/4294967296+((x/4294967296*(y%4294967296)+x%4294967296*(y%4294967296)/4294967296)%4294967296+x%4294967296*(y/4294967296))/4294967296<18446744073709551616:=by omega
 go_enter Tryz.func220,Tryz.ntmps220
 go_wp2;simp only [mask32 x hx,mask32 y hy,div32,mulN,addN,wrapN _ bd,wrapN _ c2,wrapN _ bt,mask32 _ bt,wrapN _ c3,wrapN _ bw,wrapN _ c1,wrapN _ c4,wrapN _ c5,wrapM (x*y)];rw [hhi];go_ret2;exact⟨rfl,rfl⟩
theorem mul64_any(x y:Int)(hx0:0<=x)(hx:x<=18446744073709551615)(hy0:0<=y)(hy:y<=18446744073709551615)(w:World):
 Calls Tryz.prog 220 #[.int .u64 x, .int .u64 y] w fun e w'=>e= .returned (.tuple #[.int .u64 (mi (x*y)), .int .u64 (lo (x*y))])/\w'=w:=by
 obtain⟨x,rfl⟩:=Int.eq_ofNat_of_zero_le hx0;obtain⟨y,rfl⟩:=Int.eq_ofNat_of_zero_le hy0;refine(mul64_nat x y (by omega) (by omega) w).mono ?_;rintro e w' ⟨rfl,rfl⟩;have hlt:x*y<18446744073709551616*18446744073709551616:=Nat.mul_lt_mul'' (by omega) (by omega);refine⟨ret_ii ?_ ?_,rfl⟩
 · unfold mi;rw [mulN];omega
 · unfold lo;rw [mulN];omega
namespace Qn
theorem lo_cases{a:Int}(h0: -9223372036854775808<=a)(h1:a<=9223372036854775807):(0<=a/\lo a=a)\/(a<0/\lo a=a+18446744073709551616):=by
 unfold lo;omega
theorem mul_bd{a b A B:Int}(ha: -A<=a/\a<=A)(hb: -B<=b/\b<=B)(hA:0<=A): -(A*B)<=a*b/\a*b<=A*B:=by
 have h1:(a.natAbs:Int)<=A:=by omega
 have h2:(b.natAbs:Int)<=B:=by omega
 have h3:((a*b).natAbs:Int)<=A*B:=by
  rw [Int.natAbs_mul,Int.natCast_mul];exact Int.mul_le_mul h1 h2 (by omega) hA
 omega
theorem hi_sg{n:Int}(h0: -170141183460469231731687303715884105728<=n)(h1:n<=170141183460469231731687303715884105727):sg (mi n)=hi n:=by
 unfold sg mi hi;split<;>omega
theorem mul64_bd{a b:Int}(ha0: -9223372036854775808<=a)(ha1:a<=9223372036854775807)(hb0: -9223372036854775808<=b)(hb1:b<=9223372036854775807): -85070591730234615865843651857942052864<=a*b/\a*b<=85070591730234615865843651857942052864:=by
 have:=mul_bd (a:=a) (b:=b) (A:=9223372036854775808) (B:=9223372036854775808) (by omega) (by omega) (by omega);omega
end Qn
namespace Qn
theorem pw_pp{a b:Int}(ha:lo a=a)(hb:lo b=b):lo (lo a*lo b)=lo (a*b)/\mi (lo a*lo b)=mi (a*b):=by rw [ha,hb];exact⟨rfl,rfl⟩
theorem pw_np{a b:Int}(ha:lo a=a+18446744073709551616)(hb:lo b=b):lo (lo a*lo b)=lo (a*b)/\IntKind.u64.wrap (mi (lo a*lo b)- lo b)=mi (a*b):=by
 rw [ha,hb,Int.add_mul,IntKind.wrap_u64];generalize a*b=p;unfold lo mi;omega
theorem pw_pn{a b:Int}(ha:lo a=a)(hb:lo b=b+18446744073709551616):lo (lo a*lo b)=lo (a*b)/\IntKind.u64.wrap (mi (lo a*lo b)- lo a)=mi (a*b):=by
 rw [ha,hb,Int.mul_add,IntKind.wrap_u64];generalize a*b=p;unfold lo mi;omega
theorem pw_nn{a b:Int}(ha:lo a=a+18446744073709551616)(hb:lo b=b+18446744073709551616):lo (lo a*lo b)=lo (a*b)/\IntKind.u64.wrap (IntKind.u64.wrap (mi (lo a*lo b)- lo b)- lo a)=mi (a*b):=by
 rw [ha,hb,Int.add_mul,Int.mul_add,Int.mul_add,IntKind.wrap_u64,IntKind.wrap_u64];generalize a*b=p;unfold lo mi;omega
end Qn
theorem qbFa1{p:Prop}(h:p:=by
 clear ea eb;go_enter Tryz.func268,Tryz.ntmps268
 go_wp2_with (first|(go_at_call 220;refine(mul64_any _ _ (by omega) (by omega) (by omega) (by omega) _).mono ?_;rintro e w' ⟨rfl,rfl⟩)|(go_at_call 278;refine(signOf_any _ _ (by omega) (by omega)).mono ?_;rintro e w' ⟨rfl,rfl⟩))
 refine bodyPost_ret (v:= .agg #[.int .u64 (lo (a*b)), .int .u64 (mi (a*b)), .int .u64 (sg (mi (a*b)))]) (by simp [results,Tryz.results268,go_sem]) rfl ⟨ret_3 rfl rfl HS.out,below_al (Below.refl _ _) _⟩):p:=h
theorem product_any(a b:Int)(w:World)(ha0: -9223372036854775808<=a)(ha1:a<=9223372036854775807)(hb0: -9223372036854775808<=b)(hb1:b<=9223372036854775807):
 Calls Tryz.prog 268 #[.int .i64 a, .int .i64 b] w fun e w'=>e= .returned (.agg #[.int .u64 (lo (a*b)), .int .u64 (mi (a*b)), .int .u64 (hi (a*b))])/\Below w.heap.size w w':=by
 have wa:=wrap_lo a;have wb:=wrap_lo b;have la:=lo_bd a;have lb:=lo_bd b;have mb:=mi_bd (a*b);have bd:=mul64_bd ha0 ha1 hb0 hb1;have HS:Hid (sg (mi (a*b))=hi (a*b)):=hi_sg (by omega) (by omega);clear bd;rcases lo_cases ha0 ha1 with⟨ga,ea⟩|⟨ga,ea⟩<;>rcases lo_cases hb0 hb1 with⟨gb,eb⟩|⟨gb,eb⟩
 · obtain⟨p1,p2⟩:=pw_pp ea eb;exact qbFa1
 · obtain⟨p1,p2⟩:=pw_pn ea eb;exact qbFa1
 · obtain⟨p1,p2⟩:=pw_np ea eb;exact qbFa1
 · obtain⟨p1,p2⟩:=pw_nn ea eb;exact qbFa1
end
section
open Go.RowKit Qn
namespace Qn
def adS(x y c:Int):Int:=(x+y+c)%18446744073709551616
def adC(x y c:Int):Int:=(x+y+c)/18446744073709551616
theorem adC_bd{x y c:Int}(hx:0<=x/\x<=18446744073709551615)(hy:0<=y/\y<=18446744073709551615)(hc:0<=c/\c<=1):0<=adC x y c/\adC x y c<=1:=by unfold adC;omega
theorem ad_words(s p:Int):lo (s+p)=adS (lo s) (lo p) 0/\mi (s+p)=adS (mi s) (mi p) (adC (lo s) (lo p) 0)/\hi (s+p)=adS (hi s) (hi p) (adC (mi s) (mi p) (adC (lo s) (lo p) 0)):=by
 unfold lo mi hi adS adC;refine⟨by omega,by omega,by omega⟩
end Qn
theorem add64_run{x y c:Int}(hx:0<=x/\x<=18446744073709551615)(hy:0<=y/\y<=18446744073709551615)(hc:0<=c/\c<=1)(w:World):
 (callFunc 279 #[.int .u64 x, .int .u64 y, .int .u64 c]).run Tryz.prog w= .ok (.value (.tuple #[.int .u64 (adS x y c), .int .u64 (adC x y c)])) w:=by
 rw [run_callFunc_extern Tryz.func279 (by kernel_rfl) (by kernel_rfl) (by kernel_rfl) (e:=add64Entry) (by kernel_rfl),run_add64 x y c hx.1 hy.1 hc.1 hc.2];rfl
theorem qplus_any(s a b:Int)(w:World)(ha0: -9223372036854775808<=a)(ha1:a<=9223372036854775807)(hb0: -9223372036854775808<=b)(hb1:b<=9223372036854775807):
 Calls Tryz.prog 233 #[.agg #[.int .u64 (lo s), .int .u64 (mi s), .int .u64 (hi s)], .int .i64 a, .int .i64 b] w fun e w'=>e= .returned (.agg #[.int .u64 (lo (s+a*b)), .int .u64 (mi (s+a*b)), .int .u64 (hi (s+a*b))])/\Below w.heap.size w w':=by
 obtain⟨e1,e2,e3⟩:=ad_words s (a*b);have E1:Hid (lo (s+a*b)=adS (lo s) (lo (a*b)) 0):=e1;have E2:Hid (mi (s+a*b)=adS (mi s) (mi (a*b)) (adC (lo s) (lo (a*b)) 0)):=e2;have E3:Hid (hi (s+a*b)=adS (hi s) (hi (a*b)) (adC (mi s) (mi (a*b)) (adC (lo s) (lo (a*b)) 0))):=e3;clear e1 e2 e3;have c1:=adC_bd (lo_bd s) (lo_bd (a*b)) (c:=0) (by omega);have c2:=adC_bd (mi_bd s) (mi_bd (a*b)) c1;have r1:=fun w=>add64_run (lo_bd s) (lo_bd (a*b)) (c:=0) (by omega) w;have r2:=fun w=>add64_run (mi_bd s) (mi_bd (a*b)) c1 w;have r3:=fun w=>add64_run (hi_bd s) (hi_bd (a*b)) c2 w;have i0: ∀ w,(Instr.index 334 (.agg #[.int .u64 (lo (a*b)), .int .u64 (mi (a*b)), .int .u64 (hi (a*b))]) (.int .i64 0)).run Tryz.prog w= .ok (.int .u64 (lo (a*b))) w:=fun _=>by kernel_rfl
 have i1: ∀ w,(Instr.index 334 (.agg #[.int .u64 (lo (a*b)), .int .u64 (mi (a*b)), .int .u64 (hi (a*b))]) (.int .i64 1)).run Tryz.prog w= .ok (.int .u64 (mi (a*b))) w:=fun _=>by kernel_rfl
 have i2: ∀ w,(Instr.index 334 (.agg #[.int .u64 (lo (a*b)), .int .u64 (mi (a*b)), .int .u64 (hi (a*b))]) (.int .i64 2)).run Tryz.prog w= .ok (.int .u64 (hi (a*b))) w:=fun _=>by kernel_rfl
 go_enter Tryz.func233,Tryz.ntmps233
 go_wp2_with (go_at_call 268;refine(product_any _ _ _ ha0 ha1 hb0 hb1).mono ?_;rintro e w1 ⟨rfl,hb⟩)
 have R0:Row3 w1 w.heap.size (lo s) (mi s) (hi s):=((row3_new w _ _ _).alloc _).keep hb;have S0:Row3 w1 (w.heap.size+1) 0 0 0:=(by have:=row3_new (w.alloc (Obj.cells #[Value.int IntKind.u64 (lo s),Value.int IntKind.u64 (mi s),Value.int IntKind.u64 (hi s)] 334)) 0 0 0;simpa using this:Row3 _ (w.heap.size+1) 0 0 0).keep hb;have R1:=R0.set0 (adS (lo s) (lo (a*b)) 0);have R2:=R1.set1 (adS (mi s) (mi (a*b)) (adC (lo s) (lo (a*b)) 0));have R3:=R2.set2 (adS (hi s) (hi (a*b)) (adC (mi s) (mi (a*b)) (adC (lo s) (lo (a*b)) 0)));have S3:=((S0.other (p:=⟨w.heap.size,0,none⟩) (.int .u64 (adS (lo s) (lo (a*b)) 0)) (by simp)).other (p:=⟨w.heap.size,1,none⟩) (.int .u64 (adS (mi s) (mi (a*b)) (adC (lo s) (lo (a*b)) 0))) (by simp)).other (p:=⟨w.heap.size,2,none⟩) (.int .u64 (adS (hi s) (hi (a*b)) (adC (mi s) (mi (a*b)) (adC (lo s) (lo (a*b)) 0)))) (by simp);obtain⟨hc,hf⟩:=bcell hb;refine wp_loop_rounds 4 ?_;rw [rounds_succ];go_wp2;rw [rounds_succ];go_wp2;rw [rounds_succ];go_wp2;rw [rounds_succ];go_wp2_with (first|refine wpList_load3 rfl (.tmp 3) rfl _ _ _ _ rfl R3 ?_|refine wpList_store3 rfl (.tmp 6) (.tmp 29) rfl _ _ _ _ _ _ _ rfl rfl S3 ?_)
 refine bodyPost_ret (v:= .agg #[.int .u64 (adS (lo s) (lo (a*b)) 0), .int .u64 (adS (mi s) (mi (a*b)) (adC (lo s) (lo (a*b)) 0)), .int .u64 (adS (hi s) (hi (a*b)) (adC (mi s) (mi (a*b)) (adC (lo s) (lo (a*b)) 0)))]) (results_3 Tryz.results233 _ _ (w.heap.size+1) _ _ _ rfl (S3.row _ _ _)) rfl ⟨ret_3 E1.out.symm E2.out.symm E3.out.symm, ?_⟩;have hb0:=below_tr (below_al (below_al (Below.refl _ _) _) _) hb;exact below_setRow (((hb0.setCell (Nat.le_refl _) _).setCell (Nat.le_refl _) _).setCell (Nat.le_refl _) _) (by omega) _
end
end Go.Proofs.YtcefcokpjbebhaaGreatDoor

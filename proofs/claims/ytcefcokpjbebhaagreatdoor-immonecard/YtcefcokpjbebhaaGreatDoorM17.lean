/-
  What the functions of the package turn do: Of, Short, From, Between, Middle and Radians, as whole numbers.
-/
import Derived.Test.YtcefcokpjbebhaaGreatDoorM2
import Derived.Lib.Mul64
import Derived.Deep.RegionHeld3
import Derived.Laws.ResultCell
import Derived.Deep.DrawnRows
set_option linter.unusedSimpArgs false
set_option linter.unusedVariables false
set_option maxHeartbeats 2000000
namespace Go.Proofs.YtcefcokpjbebhaaGreatDoor
section
open Go.RowKit Tn
attribute [local go_sem ↓] Go.wp_at_zero Go.wp_at_succ
namespace Tn
theorem mask32(a:Nat)(ha:a<18446744073709551616):bits .and .u64 (a:Int) 4294967295=((a%4294967296:Nat):Int):=by
 have h:=bits_and_u64_nat a 4294967295 ha (by omega);rw [show a &&& 4294967295=a%4294967296 from Nat.and_two_pow_sub_one_eq_mod a 32] at h;exact h
theorem div32(a:Nat):(a:Int)/4294967296=((a/4294967296:Nat):Int):=by omega
theorem mulN(a b:Nat):(a:Int)*(b:Int)=((a*b:Nat):Int):=(Int.natCast_mul a b).symm
theorem addN(a b:Nat):(a:Int)+(b:Int)=((a+b:Nat):Int):=(Int.natCast_add a b).symm
theorem wrapN(a:Nat)(ha:a<18446744073709551616):IntKind.u64.wrap (a:Int)=(a:Int):=by rw [IntKind.wrap_u64];omega
theorem wrapM(a:Nat):IntKind.u64.wrap (a:Int)=((a%18446744073709551616:Nat):Int):=by rw [IntKind.wrap_u64];omega
theorem ret_int{k:IntKind}{a b:Int}(h:a=b):Ending.returned (.int k a)= .returned (.int k b):=by rw [h]
end Tn
theorem tmul64_nat(x y:Nat)(hx:x<18446744073709551616)(hy:y<18446744073709551616)(w:World):
 Calls Tryz.prog 220 #[.int .u64 x, .int .u64 y] w fun e w'=>e= .returned (.tuple #[.int .u64 ((x*y/18446744073709551616:Nat):Int), .int .u64 ((x*y%18446744073709551616:Nat):Int)])/\w'=w:=by
 obtain⟨bd,bt,bw,hhi⟩:=Lib.mul64_hi x y hx hy;have ba:=Lib.half_mul_le (a:=x/4294967296) (b:=y/4294967296) (by omega) (by omega);have bb:=Lib.half_mul_le (a:=x/4294967296) (b:=y%4294967296) (by omega) (by omega);have bc:=Lib.half_mul_le (a:=x%4294967296) (b:=y/4294967296) (by omega) (by omega);have c1:x/4294967296*(y/4294967296)<18446744073709551616:=by omega
 have c2:x/4294967296*(y%4294967296)<18446744073709551616:=by omega
 have c3:x%4294967296*(y/4294967296)<18446744073709551616:=by omega
 have c4:x/4294967296*(y/4294967296)+(x/4294967296*(y%4294967296)+x%4294967296*(y%4294967296)/4294967296)/4294967296<18446744073709551616:=by omega
 have c5:x/4294967296*(y/4294967296)+(x/4294967296*(y%4294967296)+x%4294967296*(y%4294967296)/4294967296)/4294967296+((x/4294967296*(y%4294967296)+x%4294967296*(y%4294967296)/4294967296)%4294967296+x%4294967296*(y/4294967296))/4294967296<18446744073709551616:=by omega
 go_enter Tryz.func220,Tryz.ntmps220
 go_wp2;simp only [mask32 x hx,mask32 y hy,div32,mulN,addN,wrapN _ bd,wrapN _ c2,wrapN _ bt,mask32 _ bt,wrapN _ c3,wrapN _ bw,wrapN _ c1,wrapN _ c4,wrapN _ c5,wrapM (x*y)];rw [hhi];go_ret2;exact⟨rfl,rfl⟩
theorem radiansOf_any(t:Int)(w:World)(h0:0<=t)(h:t<=4294967295):
 Calls Tryz.prog 274 #[.int .u32 t] w fun e w'=>e= .returned (.agg #[.int .u64 (t*4294967296*7244019458077122842/18446744073709551616), .int .u64 (t*4294967296*7244019458077122842%18446744073709551616)])/\Below w.heap.size w w':=by
 obtain⟨t,rfl⟩:=Int.eq_ofNat_of_zero_le h0;have e1:IntKind.u64.wrap ((t:Int)*4294967296)=((t*4294967296:Nat):Int):=by rw [IntKind.wrap_u64];omega
 have hm:=tmul64_nat (t*4294967296) 7244019458077122842 (by omega) (by omega);go_enter Tryz.func274,Tryz.ntmps274
 go_wp2_with fail
 all_goals(try rw [e1])
 all_goals refine(hm _).mono ?_
 all_goals rintro e w1 ⟨rfl,rfl⟩
 all_goals go_wp2
 all_goals exact bodyPost_ret (v:= .agg #[.int .u64 ((t:Int)*4294967296*7244019458077122842/18446744073709551616), .int .u64 ((t:Int)*4294967296*7244019458077122842%18446744073709551616)]) (by simp [results,Tryz.results274,go_sem]) rfl ⟨rfl,below_al (Below.refl _ _) _⟩
theorem tlowered_any(a b:Int)(p:Nat)(w:World)(ha0:0<=a)(ha:a<9223372036854775808)(hb0:0<=b)(hb:b<18446744073709551616)(hp:p<=60):
 Calls Tryz.prog 275 #[.agg #[.int .u64 a, .int .u64 b], .int .i64 p] w fun e w'=>e= .returned (.int .u64 (rne (a*18446744073709551616+b) (18446744073709551616*2^p)))/\Below w.heap.size w w':=by
 obtain⟨q,hpq⟩: ∃ q,p+q=64:=⟨64- p,by omega⟩;obtain⟨D,hD⟩: ∃ D,(2:Int)^p=D:=⟨_,rfl⟩;obtain⟨E,hE⟩: ∃ E,(2:Int)^q=E:=⟨_,rfl⟩;obtain⟨rest,last,f1,f2,r0,r1,l0,f3⟩:=low_facts a b p q D E ha0 (by omega) hb0 hb hpq hD hE;have hD0:0<D:=by rw [← hD];exact Int.pow_pos (by omega)
 have hE0:0<E:=by rw [← hE];exact Int.pow_pos (by omega)
 have hk:IntKind.i64.wrap (64- (p:Int))=(q:Int):=by rw [IntKind.wrap_i64];omega
 have hl0:0<=a/D:=Int.ediv_nonneg ha0 (by omega);have hl1:a/D<9223372036854775808:=Int.lt_of_le_of_lt (Int.ediv_le_self D ha0) ha;rw [hD];obtain⟨z,hz⟩: ∃ z,z=rne (a*18446744073709551616+b) (18446744073709551616*D):=⟨_,rfl⟩;rw [← hz];rw [← hz] at f3;have F3:Hid (z=if 9223372036854775808<rest\/rest=9223372036854775808/\(last≠0\/a/D%2=1) then a/D+1 else a/D):=f3;clear hz;have hp0:(0:Int)<=(p:Int):=by omega
 have hp1:(p:Int)<=60:=by omega
 have hq0:(0:Int)<=(q:Int):=by omega
 have hq1:(q:Int)<=64:=by omega
 clear hpq f3;go_enter Tryz.func275,Tryz.ntmps275
 go_wp2;go_quiet (fail)
 go_wp2;all_goals go_ret
 all_goals refine⟨ret_int ?_,below_drewN (below_al (Below.refl _ _) _) _⟩
 all_goals rw [F3.out]
 all_goals(try simp only [beq_iff_eq,beq_eq_false_iff_ne] at*)
 all_goals first|(rw [if_pos (by omega)];done)|(rw [if_neg (by omega)];done)|trace_state
end
section
open Go.RowKit Tn
attribute [local go_sem ↓] Go.wp_at_zero Go.wp_at_succ
namespace Tn
theorem rne_bd(n d:Int)(hd:0<d)(hn:0<=n):0<=rne n d/\rne n d<=n/d+1:=by
 have:=Int.ediv_nonneg hn (by omega:0<=d);unfold rne;split<;>omega
def rad(t:Int)(b:Nat):Int:=rne (t*4294967296*7244019458077122842/18446744073709551616*18446744073709551616+t*4294967296*7244019458077122842%18446744073709551616) (18446744073709551616*2^(60- b))
theorem rad_bd(t:Int)(b:Nat)(h0:0<=t)(h1:t<=4294967295):0<=rad t b/\rad t b<=9223372036854775807:=by
 have hp:(0:Int)<2^(60- b):=Int.pow_pos (by omega);have h2:=rne_bd (t*4294967296*7244019458077122842/18446744073709551616*18446744073709551616+t*4294967296*7244019458077122842%18446744073709551616) (18446744073709551616*2^(60- b)) (by omega) (by omega);refine⟨h2.1,Int.le_trans h2.2 ?_⟩
 have e:(t*4294967296*7244019458077122842/18446744073709551616*18446744073709551616+t*4294967296*7244019458077122842%18446744073709551616)/(18446744073709551616*2^(60- b))=(t*4294967296*7244019458077122842/18446744073709551616*18446744073709551616+t*4294967296*7244019458077122842%18446744073709551616)/18446744073709551616/2^(60- b):=by
  rw [Int.ediv_ediv,if_neg (fun h=>absurd h.1 (by omega)),Int.sub_zero]
 rw [e];have h3:=Int.ediv_le_self (2^(60- b)) (show 0<=(t*4294967296*7244019458077122842/18446744073709551616*18446744073709551616+t*4294967296*7244019458077122842%18446744073709551616)/18446744073709551616 by omega);omega
end Tn
theorem radians_any(t:Int)(b:Nat)(w:World)(h0:0<=t)(h1:t<=4294967295)(hb:b<=60):
 Calls Tryz.prog 230 #[.int .u32 t, .int .i64 b] w fun e w'=>e= .returned (.tuple #[.int .i64 (rad t b), .nilIface])/\Below w.heap.size w w':=by
 have hbd:=rad_bd t b h0 h1;have hk:IntKind.i64.wrap (60- (b:Int))=((60- b:Nat):Int):=by rw [IntKind.wrap_i64];omega
 have hk2:60- (b:Int)=((60- b:Nat):Int):=by omega
 have hb0:(0:Int)<=(b:Int):=by omega
 have hb1:(b:Int)<=60:=by omega
 have hlow:=tlowered_any (t*4294967296*7244019458077122842/18446744073709551616) (t*4294967296*7244019458077122842%18446744073709551616) (60- b);obtain⟨z,hz⟩: ∃ z,z=rad t b:=⟨_,rfl⟩;rw [← hz] at hbd ⊢;have hzw:IntKind.i64.wrap z=z:=by rw [IntKind.wrap_i64];omega
 have Hz:Hid (z=rad t b):=hz;clear hz;go_enter Tryz.func230,Tryz.ntmps230
 go_wp2_with fail
 refine(radiansOf_any t _ h0 h1).mono ?_;rintro e w1 ⟨rfl,k1⟩;go_wp2_with fail
 try rw [hk2]
 refine(hlow _ (by omega) (by omega) (by omega) (by omega) (by omega)).mono ?_;rintro e w2 ⟨rfl,k2⟩;have hu:rne (t*4294967296*7244019458077122842/18446744073709551616*18446744073709551616+t*4294967296*7244019458077122842%18446744073709551616) (18446744073709551616*2^(60- b))=z:=Hz.out.symm;rw [hu];clear hu hlow;go_wp2;go_ret2;exact⟨rfl,below_tr k1 k2⟩
end
end Go.Proofs.YtcefcokpjbebhaaGreatDoor

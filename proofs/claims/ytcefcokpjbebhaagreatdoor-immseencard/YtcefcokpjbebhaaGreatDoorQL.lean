/-
  How many bits a word has: Go's own bits.Len64.
-/
import Derived.Test.YtcefcokpjbebhaaGreatDoorProg
import Derived.Lib.Strings
import Derived.Lib.Slices
import Derived.Lib.Small
import Derived.Lib.Walk
import Derived.Lib.BitFns
set_option linter.unusedSimpArgs false
set_option linter.unusedVariables false
namespace Go.Proofs.YtcefcokpjbebhaaGreatDoor
theorem om3{p:Prop}(h:p:=by omega):p:=h
theorem rl3{p:Prop}(h:p:=by rfl):p:=h
namespace Qn
theorem lQ(x y:Int)(d k:Nat)(h0:0<=y)(h1:y<=255)(hd:Lib.bitLen x.toNat=d+Lib.bitLen k)(hk:k=y.toNat):
 0<=Lib.len8 y/\Lib.len8 y<=8/\(d:Int)+Lib.len8 y=((Lib.bitLen x.toNat:Nat):Int):=by
 have l:=Lib.bitLen_le8' y h0 h1;rw [Lib.len8_of y h0 h1,hd,hk];omega
theorem uB: ∀ (f x:Nat),x<2^f->x<2^Lib.bitLenAux f x/\(x≠0->0<Lib.bitLenAux f x/\2^(Lib.bitLenAux f x- 1)<=x)
 |0,x,h=>by
  have:x=0:=by simpa using h
  subst this
  exact⟨by simp [Lib.bitLenAux],fun h=>absurd rfl h⟩
 |f+1,x,h=>by
  rw [Lib.bitLenAux]
  by_cases hx:x=0
  · subst hx
    exact⟨by simp,fun h=>absurd rfl h⟩
  · rw [if_neg hx]
    obtain⟨i1,i2⟩:=uB f (x/2) (by rw [Nat.pow_succ] at h;omega)
    refine⟨by rw [Nat.add_comm,Nat.pow_succ];omega,fun _=>⟨om3, ?_⟩⟩
    by_cases h2:x/2=0
    · have:Lib.bitLenAux f (x/2)=0:=by
       rw [h2];cases f<;>simp [Lib.bitLenAux]
      rw [this];have:x=1:=om3;rw [this];simp
    · obtain⟨j1,j2⟩:=i2 h2;have e:1+Lib.bitLenAux f (x/2)- 1=(Lib.bitLenAux f (x/2)- 1)+1:=om3;rw [e,Nat.pow_succ];omega
theorem Oc(x:Nat)(h0:x≠0)(hx:x<18446744073709551616): ∃ s:Nat,s+Lib.bitLen x=64/\s<=63/\9223372036854775808<=x*2^s/\x*2^s<18446744073709551616:=by
 have h:=uB 64 x hx;have hl:=Lib.bitLen_le x 64 om3 hx;obtain⟨h1,h2⟩:=h;obtain⟨h2,h3⟩:=h2 h0;change x<2^Lib.bitLen x at h1;change 0<Lib.bitLen x at h2;change 2^(Lib.bitLen x- 1)<=x at h3;generalize Lib.bitLen x=b at*;refine⟨64- b,om3,om3, ?_, ?_⟩
 · have:=Nat.mul_le_mul_right (2^(64- b)) h3;rw [← Nat.pow_add,show b- 1+(64- b)=63 by omega] at this;omega
 · have:=Nat.mul_lt_mul_of_pos_right h1 (Nat.two_pow_pos (64- b));rw [← Nat.pow_add,show b+(64- b)=64 by omega] at this;omega
end Qn
set_option maxHeartbeats 4000000 in
set_option maxRecDepth 100000 in
theorem G5(x:Int)(w:World)(h0:0<=x)(h1:x<=18446744073709551615):
 Calls Tryz.prog 294 #[.int .u64 x] w fun e w'=>e= .returned (.int .i64 (Lib.bitLen x.toNat))/\w'=w:=by
 go_enter Tryz.func294,Tryz.ntmps294
 go_wp2;all_goals go_ret
 all_goals refine⟨congrArg Ending.returned (congrArg (Value.int IntKind.i64) ?_),rfl⟩
 · have:=Qn.lQ x (x/4294967296/65536/256%256) 56 _ om3 om3 (Lib.bitLen_shift56 x.toNat om3 om3) om3;omega
 · have:=Qn.lQ x (x/4294967296/65536%256) 48 _ om3 om3 (Lib.bitLen_shift48 x.toNat om3 om3) om3;omega
 · have:=Qn.lQ x (x/4294967296/256%256) 40 _ om3 om3 (Lib.bitLen_shift40 x.toNat om3 om3) om3;omega
 · have:=Qn.lQ x (x/4294967296%256) 32 _ om3 om3 (Lib.bitLen_shift32 x.toNat om3 om3) om3;omega
 · have:=Qn.lQ x (x/65536/256%256) 24 _ om3 om3 (Lib.bitLen_shift24 x.toNat om3 om3) om3;omega
 · have:=Qn.lQ x (x/65536%256) 16 _ om3 om3 (Lib.bitLen_shift16 x.toNat om3 om3) om3;omega
 · have:=Qn.lQ x (x/256%256) 8 _ om3 om3 (Lib.bitLen_shift8 x.toNat om3 om3) om3;omega
 · have:=Qn.lQ x (x%256) 0 x.toNat om3 om3 om3 om3;omega
end Go.Proofs.YtcefcokpjbebhaaGreatDoor

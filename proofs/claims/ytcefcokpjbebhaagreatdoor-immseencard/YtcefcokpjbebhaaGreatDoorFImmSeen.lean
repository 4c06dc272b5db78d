/-
  The frame of the law ImmSeen: of a walk that returns true the row, and of the row the tied card.
-/
import Derived.Test.YtcefcokpjbebhaaGreatDoorTgLaid
import Derived.Test.YtcefcokpjbebhaaGreatDoorM60
import Derived.Test.YtcefcokpjbebhaaGreatDoorLie
import Derived.Test.YtcefcokpjbebhaaGreatDoorCards
import Derived.Test.YtcefcokpjbebhaaGreatDoorTie
import Derived.ProofKit
import Derived.ShutString
import Derived.ChangeOld
import Derived.Below
set_option linter.unusedSimpArgs false
set_option linter.unusedVariables false
namespace Go.Proofs.YtcefcokpjbebhaaGreatDoor
open Go.ChangeShapes Go.WideShapes Go.ChangeAt Go.RowKit
namespace FImmSeen
def Walk:Prop:= ∀ (c0:List Value) (c1:List Value) (a2_0 a2_1 a2_2 a2_3 a2_4:Int) (w:World),Lie.L w 25 c0->Lie.L w 29 c1->(Lit.int .i64 a2_0).wf=true->(Lit.int .i64 a2_1).wf=true->(Lit.int .i64 a2_2).wf=true->(Lit.int .i64 a2_3).wf=true->(Lit.int .i64 a2_4).wf=true->lV w->iM w->Calls Tryz.prog 4 #[.agg c0.toArray, .agg c1.toArray, .agg #[.int .i64 a2_0, .int .i64 a2_1, .int .i64 a2_2, .int .i64 a2_3, .int .i64 a2_4]] w fun e w'=>e= .returned (.bool true)/\Below w.heap.size w w'
theorem own:ownKnob Tryz.prog.godebug=none:=by kernel_rfl
theorem laidOut:laidOutB Tryz.prog=true:=by kernel_rfl
set_option maxRecDepth 100000 in
theorem lifted(walk:Walk)(os:Os)(started:os.Started)(H:Type)(enc:TypeId×Value->H):
 ReturnsInHanded {} Tryz.checked os 4 .any (fun w args=>(Rows.immSeenSpec.pre enc Tryz.prog Tryz.f4 [] false w args/\laidMetH Tryz.prog [("errors.errorType",Rows.laid_errors_errorType),("radome/trig.angles",Rows.laid_radome_trig_angles)] w)/\sizedMet enc Tryz.prog Tryz.f4 (OpenSpec.ofChange Rows.immSeenSpec) false w args)
  (Rows.immSeenSpec.post enc Tryz.prog Tryz.f4 false true false false):=by
 refine returnsInHanded_of_change_and (C:=Tryz.checked) (X:=fun w _=>laidMetH Tryz.prog [("errors.errorType",Rows.laid_errors_errorType),("radome/trig.angles",Rows.laid_radome_trig_angles)] w) (fun _ _ _ hh h=>h.of_heap hh) own started (by kernel_rfl) Tryz.func4
  (ChangeSpec.witness_at (enc:=enc) (C:=Tryz.checked) (os:=os) (X:=fun w _=>laidMetH Tryz.prog [("errors.errorType",Rows.laid_errors_errorType),("radome/trig.angles",Rows.laid_radome_trig_angles)] w) false _ #[.agg #[.slice none 0 0, .slice none 0 0, .int .i64 0], .agg #[.slice none 0 0, .slice none 0 0], .agg #[.int .i64 0, .int .i64 0, .int .i64 0, .int .i64 0, .int .i64 0]] 8 rfl (by kernel_rfl) (by kernel_rfl) (by kernel_rfl) (by kernel_rfl) (by kernel_rfl) (La2.met os _)) ?_
 intro W base args ds gs before hval0 hW _ _ hL _;have hval: ∀ (j:Nat) t v,Tryz.f4.params[j]?=some t->args[j]?=some v->Value.okWide Tryz.prog W .any base t v:=hval0;have hW':=hW;obtain⟨p,q,hA0,hV0,rfl,hfz,hnd⟩:=hW;have hA:DataW.TrodAll enc Tryz.prog W 0 (fun _=>true) true Tryz.f4.params.toList args.toList ds p:=hA0;rw [Tryz.params4] at hA hval;obtain⟨v0,vs0,d0,ds0,p0,q0,hargs,rfl,rfl,h0,r0⟩:=trodAll_cons hA;obtain⟨v1,vs1,d1,ds1,p1,q1,rfl,rfl,rfl,h1,r1⟩:=trodAll_cons r0;obtain⟨v2,vs2,d2,ds2,p2,q2,rfl,rfl,rfl,h2,r2⟩:=trodAll_cons r1;obtain⟨rfl,rfl,rfl⟩:=trodAll_nil r2;obtain rfl:args= #[v0,v1,v2]:=by cases args;simp_all
 have hV:DataW.TrodVars enc Tryz.prog W (fun _=>true) [] gs q:=hV0
 obtain⟨rfl,rfl⟩:gs= []/\q= []:=by
  cases gs with
  |nil=>exact⟨rfl,hV⟩
  |cons g r=>exact absurd hV (by intro h;cases h)
 have hg:=La2.KJ hL;have k0:=h0;have lt0: ∀ x∈p0,x.block<W.heap.size:=by obtain⟨m,hm⟩:=k0;exact DataW.trod_lt m _ _ _ hm
 obtain⟨⟨c0⟩,rfl⟩: ∃ cs,v0= .agg cs:=by
  have h:=hval 0 25 v0 rfl rfl;simp only [Value.okWide,Tryz.underlying25] at h;exact⟨_,h.choose_spec.1⟩
 have w0:Lie.L W 25 c0:=Lie.Uz h0;have k1:=h1;have lt1: ∀ x∈p1,x.block<W.heap.size:=by obtain⟨m,hm⟩:=k1;exact DataW.trod_lt m _ _ _ hm
 obtain⟨⟨c1⟩,rfl⟩: ∃ cs,v1= .agg cs:=by
  have h:=hval 1 29 v1 rfl rfl;simp only [Value.okWide,Tryz.underlying29] at h;exact⟨_,h.choose_spec.1⟩
 have w1:Lie.L W 29 c1:=Lie.Uz h1;have k2:=h2;have lt2: ∀ x∈p2,x.block<W.heap.size:=by obtain⟨m,hm⟩:=k2;exact DataW.trod_lt m _ _ _ hm
 obtain⟨z2,l2,rfl,wz2⟩:=Stc.KN Tryz.underlying67 [.i64, .i64, .i64, .i64, .i64] (by kernel_rfl) (by kernel_rfl) (hval 2 67 v2 rfl rfl) h2;obtain⟨a2_0,a2_1,a2_2,a2_3,a2_4,rfl⟩:=Stc.five l2;have w2_0:(Lit.int .i64 a2_0).wf=true:=wz2 0 (by decide);have w2_1:(Lit.int .i64 a2_1).wf=true:=wz2 1 (by decide);have w2_2:(Lit.int .i64 a2_2).wf=true:=wz2 2 (by decide);have w2_3:(Lit.int .i64 a2_3).wf=true:=wz2 3 (by decide);have w2_4:(Lit.int .i64 a2_4).wf=true:=wz2 4 (by decide);clear hA0 hval0;refine(walk c0 c1 a2_0 a2_1 a2_2 a2_3 a2_4 W w0 w1 w2_0 w2_1 w2_2 w2_3 w2_4 hg.1 hg.2).mono fun e W' ⟨he,bel⟩=> ?_;subst he;exact⟨_,rfl,_,_,_,[],_,[],hW',trodAll_mk1 (shut_bool Tryz.underlying4 _),(trodAll_cons_mk (Below.trod laidOut (by kernel_rfl) (of_decide_eq_true (by kernel_rfl)) k0 bel lt0) (trodAll_cons_mk (Below.trod laidOut (by kernel_rfl) (of_decide_eq_true (by kernel_rfl)) k1 bel lt1) (trodAll_cons_mk (Below.trod laidOut (by kernel_rfl) (of_decide_eq_true (by kernel_rfl)) k2 bel lt2) trodAll_mk0))),rfl,bel.frame _,fun h=>by cases h⟩
theorem fPlace:(Rows.immSeenRow.inPlace==Tryz.prog.inPlace 4)=true:=by kernel_rfl
theorem fUnf:(Rows.immSeenRow.unfollowed==Tryz.prog.unfollowed 4)=true:=by kernel_rfl
theorem fRec:(Rows.immSeenRow.recurses==Tryz.prog.recurses 4)=true:=by kernel_rfl
theorem fVars:(Rows.immSeenRow.named==Tryz.prog.varsNamed 4)=true:=by kernel_rfl
theorem fName:Tryz.prog.funcNamed Rows.immSeenRow.func=some 4:=by kernel_rfl
set_option maxHeartbeats 100000000 in
theorem closed:joinedFacts Tryz.prog 4 Tryz.f4 Rows.immSeenSpec Rows.immSeenRow=true:=by
 unfold joinedFacts;repeat(with_reducible refine Bool.and_eq_true_iff.mpr ⟨?_, ?_⟩)
 all_goals first
  |with_reducible exact fPlace
  |with_reducible exact fUnf
  |with_reducible exact fRec
  |with_reducible exact fVars
  |(as_aux_lemma=>kernel_rfl)
theorem row(walk:Walk):Rows.ImmSeenSaid:=
 OpenClaim.holds_of_wide 4 Tryz.f4 rfl rfl rfl rfl rfl rfl rfl ⟨rfl,rfl,rfl,rfl,rfl⟩ rfl rfl rfl rfl rfl fName Tryz.func4 closed
  (of_decide_eq_true (by as_aux_lemma=>kernel_rfl)) (by unfold Func.isWrapper;first|(rw [if_pos (by decide+kernel)];kernel_rfl)|(rw [if_neg (by decide+kernel)];exact⟨rfl,rfl⟩))
  (fun os started H enc _=>lifted walk os started H enc)
theorem card(walk:Walk):Rows.ImmSeenCardSaid:=
 Claim7.holds_tied_plain_at .later [] [.handle, .data] true Rows.immSeenCard.stood.harness true
  (row walk) (fun _ h=>by cases h) (by kernel_rfl) (fun _ h=>by cases h) immSeen_row_tie rfl ⟨rfl,rfl⟩ (by kernel_rfl) rfl
  (fun f fn hf hfn=>by
    obtain rfl:f=4:=Option.some.inj ((show Tryz.prog.funcNamed Rows.immSeenRow.func=some 4 by kernel_rfl).symm.trans hf)|>.symm
    obtain rfl:fn=Tryz.f4:=(Option.some.inj (Tryz.func4.symm.trans hfn)).symm
    exact⟨by kernel_rfl,fun j t ht=>by
     rw [Tryz.params4] at ht
     have h3:t=25\/t=29\/t=67:=by
      rcases j with _|_|_|j
      · left;simpa using ht.symm
      · right;left;simpa using ht.symm
      · right;right;simpa using ht.symm
      · simp at ht
     rcases h3 with rfl|rfl|rfl
     · exact(show Tryz.prog.wantsStandIn 25=false by kernel_rfl)
     · exact(show Tryz.prog.wantsStandIn 29=false by kernel_rfl)
     · exact(show Tryz.prog.wantsStandIn 67=false by kernel_rfl)⟩)
  (by kernel_rfl)
end FImmSeen
end Go.Proofs.YtcefcokpjbebhaaGreatDoor

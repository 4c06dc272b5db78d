/-
  The frame of the law ImmAhead: of a walk that returns true the row, and of the row the tied card.
-/
import Derived.Test.YtcefcokpjbebhaaGreatDoorTgLaid
import Derived.Test.YtcefcokpjbebhaaGreatDoorRows
import Derived.Test.YtcefcokpjbebhaaGreatDoorLie
import Derived.Test.YtcefcokpjbebhaaGreatDoorCards
import Derived.Test.YtcefcokpjbebhaaGreatDoorTie
import Derived.SevenTiedAt
import Derived.ProofKit
import Derived.OpenShut
import Derived.ShutString
import Derived.ChangeOld
import Derived.Below
set_option linter.unusedSimpArgs false
set_option linter.unusedVariables false
namespace Go.Proofs.YtcefcokpjbebhaaGreatDoor
open Go.ChangeShapes Go.WideShapes Go.ChangeAt Go.RowKit
namespace FImmAhead
def Walk:Prop:= ∀ (c0:List Value) (c1:List Value) (a2:Int) (w:World),Lie.L w 25 c0->Lie.L w 29 c1->(Lit.int .i64 a2).wf=true->ErrTab w->AngTab w->Calls Tryz.prog 3 #[.agg c0.toArray, .agg c1.toArray, .int .i64 a2] w fun e w'=>e= .returned (.bool true)/\Below w.heap.size w w'
theorem own:ownKnob Tryz.prog.godebug=none:=by kernel_rfl
theorem laidOut:laidOutB Tryz.prog=true:=by kernel_rfl
set_option maxRecDepth 100000 in
theorem lifted(walk:Walk)(os:Os)(started:os.Started)(H:Type)(enc:TypeId×Value->H):
 ReturnsInHanded {} Tryz.checked os 3 .any (fun w args=>(Rows.immAheadSpec.pre enc Tryz.prog Tryz.f3 [] false w args/\laidMetH Tryz.prog [("errors.errorType",Rows.laid_errors_errorType),("radome/trig.angles",Rows.laid_radome_trig_angles)] w)/\sizedMet enc Tryz.prog Tryz.f3 (OpenSpec.ofChange Rows.immAheadSpec) false w args)
  (Rows.immAheadSpec.post enc Tryz.prog Tryz.f3 false true false false):=by
 refine returnsInHanded_of_change_and (C:=Tryz.checked) (X:=fun w _=>laidMetH Tryz.prog [("errors.errorType",Rows.laid_errors_errorType),("radome/trig.angles",Rows.laid_radome_trig_angles)] w) (fun _ _ _ hh h=>h.of_heap hh) own started (by kernel_rfl) Tryz.func3
  (ChangeSpec.witness_at (enc:=enc) (C:=Tryz.checked) (os:=os) (X:=fun w _=>laidMetH Tryz.prog [("errors.errorType",Rows.laid_errors_errorType),("radome/trig.angles",Rows.laid_radome_trig_angles)] w) false _ #[.agg #[.slice none 0 0, .slice none 0 0, .int .i64 0], .agg #[.slice none 0 0, .slice none 0 0], .int .i64 0] 8 rfl (by kernel_rfl) (by kernel_rfl) (by kernel_rfl) (by kernel_rfl) (by kernel_rfl) (La2.met os _)) ?_
 intro W base args ds gs before hval0 hW _ _ hL _;have hval: ∀ (j:Nat) t v,Tryz.f3.params[j]?=some t->args[j]?=some v->Value.okWide Tryz.prog W .any base t v:=hval0;have hW':=hW;obtain⟨p,q,hA0,hV0,rfl,hfz,hnd⟩:=hW;have hA:DataW.TrodAll enc Tryz.prog W 0 (fun _=>true) true Tryz.f3.params.toList args.toList ds p:=hA0;rw [Tryz.params3] at hA hval;obtain⟨v0,vs0,d0,ds0,p0,q0,hargs,rfl,rfl,h0,r0⟩:=trodAll_cons hA;obtain⟨v1,vs1,d1,ds1,p1,q1,rfl,rfl,rfl,h1,r1⟩:=trodAll_cons r0;obtain⟨v2,vs2,d2,ds2,p2,q2,rfl,rfl,rfl,h2,r2⟩:=trodAll_cons r1;obtain⟨rfl,rfl,rfl⟩:=trodAll_nil r2;obtain rfl:args= #[v0,v1,v2]:=by cases args;simp_all
 have hV:DataW.TrodVars enc Tryz.prog W (fun _=>true) [] gs q:=hV0
 obtain⟨rfl,rfl⟩:gs= []/\q= []:=by
  cases gs with
  |nil=>exact⟨rfl,hV⟩
  |cons g r=>exact absurd hV (by intro h;cases h)
 have hg:=La2.tab_of_laid hL;have k0:=h0;have lt0: ∀ x∈p0,x.block<W.heap.size:=by obtain⟨m,hm⟩:=k0;exact DataW.trod_lt m _ _ _ hm
 obtain⟨⟨c0⟩,rfl⟩: ∃ cs,v0= .agg cs:=by
  have h:=hval 0 25 v0 rfl rfl;simp only [Value.okWide,Tryz.underlying25] at h;exact⟨_,h.choose_spec.1⟩
 have w0:Lie.L W 25 c0:=Lie.of_trod h0;have k1:=h1;have lt1: ∀ x∈p1,x.block<W.heap.size:=by obtain⟨m,hm⟩:=k1;exact DataW.trod_lt m _ _ _ hm
 obtain⟨⟨c1⟩,rfl⟩: ∃ cs,v1= .agg cs:=by
  have h:=hval 1 29 v1 rfl rfl;simp only [Value.okWide,Tryz.underlying29] at h;exact⟨_,h.choose_spec.1⟩
 have w1:Lie.L W 29 c1:=Lie.of_trod h1;obtain⟨a2,rfl,rfl,rfl,w2⟩:=open_int Tryz.underlying2 (hval 2 2 v2 rfl rfl) h2;clear hA0 hval0;refine(walk c0 c1 a2 W w0 w1 w2 hg.1 hg.2).mono fun e W' ⟨he,bel⟩=> ?_;subst he;exact⟨_,rfl,_,_,_,[],_,[],hW',trodAll_mk1 (shut_bool Tryz.underlying4 _),(trodAll_cons_mk (Below.trod laidOut (by kernel_rfl) (of_decide_eq_true (by kernel_rfl)) k0 bel lt0) (trodAll_cons_mk (Below.trod laidOut (by kernel_rfl) (of_decide_eq_true (by kernel_rfl)) k1 bel lt1) (trodAll_cons_mk (shut_int Tryz.underlying2 w2) trodAll_mk0))),rfl,bel.frame _,fun h=>by cases h⟩
theorem fPlace:(Rows.immAheadRow.inPlace==Tryz.prog.inPlace 3)=true:=by kernel_rfl
theorem fUnf:(Rows.immAheadRow.unfollowed==Tryz.prog.unfollowed 3)=true:=by kernel_rfl
theorem fRec:(Rows.immAheadRow.recurses==Tryz.prog.recurses 3)=true:=by kernel_rfl
theorem fVars:(Rows.immAheadRow.named==Tryz.prog.varsNamed 3)=true:=by kernel_rfl
theorem fName:Tryz.prog.funcNamed Rows.immAheadRow.func=some 3:=by kernel_rfl
set_option maxHeartbeats 100000000 in
theorem closed:joinedFacts Tryz.prog 3 Tryz.f3 Rows.immAheadSpec Rows.immAheadRow=true:=by
 unfold joinedFacts;repeat(with_reducible refine Bool.and_eq_true_iff.mpr ⟨?_, ?_⟩)
 all_goals first
  |with_reducible exact fPlace
  |with_reducible exact fUnf
  |with_reducible exact fRec
  |with_reducible exact fVars
  |(as_aux_lemma=>kernel_rfl)
theorem row(walk:Walk):Rows.ImmAheadSaid:=
 OpenClaim.holds_of_wide 3 Tryz.f3 rfl rfl rfl rfl rfl rfl rfl ⟨rfl,rfl,rfl,rfl,rfl⟩ rfl rfl rfl rfl rfl fName Tryz.func3 closed
  (of_decide_eq_true (by as_aux_lemma=>kernel_rfl)) (by unfold Func.isWrapper;first|(rw [if_pos (by decide+kernel)];kernel_rfl)|(rw [if_neg (by decide+kernel)];exact⟨rfl,rfl⟩))
  (fun os started H enc _=>lifted walk os started H enc)
theorem card(walk:Walk):Rows.ImmAheadCardSaid:=
 Claim7.holds_tied_plain_at .later [] [.handle, .data] true Rows.immAheadCard.stood.harness true
  (row walk) (fun _ h=>by cases h) (by kernel_rfl) (fun _ h=>by cases h) immAhead_row_tie rfl ⟨rfl,rfl⟩ (by kernel_rfl) rfl
  (fun f fn hf hfn=>by
    obtain rfl:f=3:=Option.some.inj ((show Tryz.prog.funcNamed Rows.immAheadRow.func=some 3 by kernel_rfl).symm.trans hf)|>.symm
    obtain rfl:fn=Tryz.f3:=(Option.some.inj (Tryz.func3.symm.trans hfn)).symm
    exact⟨by kernel_rfl,fun j t ht=>by
     rw [Tryz.params3] at ht
     have h3:t=25\/t=29\/t=2:=by
      rcases j with _|_|_|j
      · left;simpa using ht.symm
      · right;left;simpa using ht.symm
      · right;right;simpa using ht.symm
      · simp at ht
     rcases h3 with rfl|rfl|rfl
     · exact(show Tryz.prog.wantsStandIn 25=false by kernel_rfl)
     · exact(show Tryz.prog.wantsStandIn 29=false by kernel_rfl)
     · exact(show Tryz.prog.wantsStandIn 2=false by kernel_rfl)⟩)
  (by kernel_rfl)
end FImmAhead
end Go.Proofs.YtcefcokpjbebhaaGreatDoor

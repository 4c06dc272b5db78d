/-
  errors.As at the target of an api.Errno: of nil it is false; of an Errno it is true, and sets the target. After it: num, an error's number.
-/
import Derived.Test.YtcefcokpjbebhaaGreatDoorM2
import Derived.LaidEql
import Derived.Stop.Asserts
import Derived.RowKitTokens
set_option linter.unusedSimpArgs false
set_option linter.unusedVariables false
set_option maxHeartbeats 4000000
namespace Go.Proofs.YtcefcokpjbebhaaGreatDoor
open Go.RowKit Go.Extern.Stop Go.Stop Go.Extern
namespace Er
theorem Wy(t:Addr)(w:World):(ReflectliteValue.unpack (.iface 111 (.pointer (some t)))).run Tryz.prog w
 = .ok (.agg #[.pointer (some ⟨4,111,none⟩), .pointer (some ⟨w.heap.size,0,none⟩), .int .u64 150]) (w.alloc (.cells #[.pointer (some t)] 111)):=by kernel_rfl
theorem typeP(a:Addr)(w:World):(ReflectliteValue.methodAny (ReflectliteValue.valueError "reflectlite.Value.Type" 0) (fun t _ _ _=>ReflectliteType.toType t) #[.agg #[.pointer (some ⟨4,111,none⟩), .pointer (some a), .int .u64 150]]).run Tryz.prog w
 = .ok (.iface 290 (.agg #[.pointer (some ⟨4,111,none⟩)])) w:=by kernel_rfl
theorem methodKind(h:Value)(w:World):(Go.method 520 290 (.agg #[h]) "Kind").run Tryz.prog w= .ok (314,h) w:=by kernel_rfl
theorem kindP(w:World):((ReflectliteType.abiMethod fun t=>(fun a:Nat=>Value.int IntKind.u8 (a:Int))<$>Rtype.kind t) #[.pointer (some ⟨4,111,none⟩)]).run Tryz.prog w= .ok (.int .u8 22) w:=by kernel_rfl
theorem kindE(w:World):((ReflectliteType.abiMethod fun t=>(fun a:Nat=>Value.int IntKind.u8 (a:Int))<$>Rtype.kind t) #[.pointer (some ⟨4,93,none⟩)]).run Tryz.prog w= .ok (.int .u8 2) w:=by kernel_rfl
theorem rlm(z:Sem Value)(f:TypeId->Addr->Nat->Nat->Sem Value)(v:Value):
 ReflectliteValue.method z f #[v]=(do match ← ReflectliteValue.parts v with|none=>z|some (t,a,fl)=>f t a fl (fl%32)):=rfl
theorem X9(a:Addr)(w:World):(ReflectliteValue.parts (.agg #[.pointer (some ⟨4,111,none⟩), .pointer (some a), .int .u64 150])).run Tryz.prog w= .ok (some (111,a,150)) w:=by kernel_rfl
theorem isNilP(a p:Addr)(W:World)(ha:W.cell? a=some (.pointer (some p))):
 (ReflectliteValue.method (ReflectliteValue.valueError "reflectlite.Value.IsNil" 0) ReflectliteValue.isNil #[.agg #[.pointer (some ⟨4,111,none⟩), .pointer (some a), .int .u64 150]]).run Tryz.prog W= .ok (.bool false) W:=by
 rw [rlm];simp only [Sem.run_bind,X9,Result.andThen];simp [ReflectliteValue.isNil,loadVar,isAgg,underlying,Tryz.underlying111,ha,Result.andThen]
theorem methodElem(h:Value)(w:World):(Go.method 520 290 (.agg #[h]) "Elem").run Tryz.prog w= .ok (324, .agg #[h]) w:=by kernel_rfl
theorem methodImplements(h:Value)(w:World):(Go.method 520 290 (.agg #[h]) "Implements").run Tryz.prog w= .ok (325, .agg #[h]) w:=by kernel_rfl
theorem methodAssignableTo(h:Value)(w:World):(Go.method 520 290 (.agg #[h]) "AssignableTo").run Tryz.prog w= .ok (322, .agg #[h]) w:=by kernel_rfl
theorem elemP(w:World):(ReflectliteType.method ReflectliteType.elem #[.agg #[.pointer (some ⟨4,111,none⟩)]]).run Tryz.prog w= .ok (.iface 290 (.agg #[.pointer (some ⟨4,93,none⟩)])) w:=by kernel_rfl
theorem J4(w:World):(ReflectliteType.relation "Implements" ReflectliteType.implements_ #[.agg #[.pointer (some ⟨4,93,none⟩)], .iface 290 (.agg #[.pointer (some ⟨4,36,none⟩)])]).run Tryz.prog w= .ok (.bool true) w:=by kernel_rfl
theorem aaB(v:Value)(w:World):(ReflectliteType.typeOf #[.iface 93 v]).run Tryz.prog w= .ok (.iface 290 (.agg #[.pointer (some ⟨4,93,none⟩)])) w:=by kernel_rfl
theorem J5(w:World):(ReflectliteType.relation "AssignableTo" ReflectliteType.assignableTo #[.agg #[.pointer (some ⟨4,93,none⟩)], .iface 290 (.agg #[.pointer (some ⟨4,93,none⟩)])]).run Tryz.prog w= .ok (.bool true) w:=by kernel_rfl
theorem WC(n:Int)(w:World):(ReflectliteValue.unpack (.iface 93 (.int .i64 n))).run Tryz.prog w
 = .ok (.agg #[.pointer (some ⟨4,93,none⟩), .pointer (some ⟨w.heap.size,0,none⟩), .int .u64 130]) (w.alloc (.cells #[.int .i64 n] 93)):=by kernel_rfl
theorem aaC(w:World):(Rtype.elem? 111).run Tryz.prog w= .ok (some 93) w:=by kernel_rfl
theorem mkE(p:Addr)(w:World):(ReflectliteValue.mk 93 p ReflectliteValue.flagAddr).run Tryz.prog w= .ok (.agg #[.pointer (some ⟨4,93,none⟩), .pointer (some p), .int .u64 386]) w:=by kernel_rfl
theorem elemVP(a p:Addr)(W:World)(ha:W.cell? a=some (.pointer (some p))):
 (ReflectliteValue.method (ReflectliteValue.valueError "reflectlite.Value.Elem" 0) ReflectliteValue.elem #[.agg #[.pointer (some ⟨4,111,none⟩), .pointer (some a), .int .u64 150]]).run Tryz.prog W
   = .ok (.agg #[.pointer (some ⟨4,93,none⟩), .pointer (some p), .int .u64 386]) W:=by
 rw [rlm];simp only [Sem.run_bind,X9,Result.andThen];simp [ReflectliteValue.elem,loadVar,isAgg,underlying,Tryz.underlying111,ha,Result.andThen,aaC,mkE]
theorem rls(v x:Value):ReflectliteValue.set #[v,x]=(do
 let (some (dst,a,fl),some (src,b,_)):=(← ReflectliteValue.parts v,← ReflectliteValue.parts x)
  |unsupported (.noEntry "extern/(internal/reflectlite.Value).Set.zeroValue")
 if fl/ReflectliteValue.flagAddr%2==0 then unsupported (.noEntry "extern/(internal/reflectlite.Value).Set.unaddressable")
 let val ← loadVar src b
 if ← Rtype.directlyAssignable dst src then storeVar dst a val
 else if ← Rtype.implements dst src then
  if(← Rtype.kind src)==20 then
   match val with
   | .nilIface=>unsupported (.noEntry "extern/reflectlite: a nil value of one interface type handed on as a value of another")
   |_=>storeVar dst a val
  else storeVar dst a (.iface src val)
 else panicString ("reflectlite.Set: value of type " ++(← Rtype.spelt src)++ " is not assignable to type " ++(← Rtype.spelt dst))
 pure (.tuple #[])):=rfl
theorem aaD(a:Addr)(w:World):(ReflectliteValue.parts (.agg #[.pointer (some ⟨4,93,none⟩), .pointer (some a), .int .u64 386])).run Tryz.prog w= .ok (some (93,a,386)) w:=by kernel_rfl
theorem partsE(a:Addr)(w:World):(ReflectliteValue.parts (.agg #[.pointer (some ⟨4,93,none⟩), .pointer (some a), .int .u64 130])).run Tryz.prog w= .ok (some (93,a,130)) w:=by kernel_rfl
theorem aaE(w:World):(Rtype.directlyAssignable 93 93).run Tryz.prog w= .ok true w:=by kernel_rfl
theorem setE(ta b:Addr)(n:Int)(old:Value)(W:World)(hb:W.cell? b=some (.int .i64 n))(ht:W.cell? ta=some old)(hf:W.frozen? ta=false):
 (ReflectliteValue.set #[.agg #[.pointer (some ⟨4,93,none⟩), .pointer (some ta), .int .u64 386], .agg #[.pointer (some ⟨4,93,none⟩), .pointer (some b), .int .u64 130]]).run Tryz.prog W
   = .ok (.tuple #[]) (W.setCell ta (.int .i64 n)):=by
 rw [rls];simp only [Sem.run_bind,aaD,partsE,Result.andThen];simp [ReflectliteValue.flagAddr,loadVar,isAgg,underlying,Tryz.underlying93,hb,Result.andThen,aaE,storeVar,Value.cells,storeCells,Addr.add];rw [run_store Tryz.prog W ta _ _ rl1];simp [ht,hf]
end Er
open Er
set_option maxRecDepth 20000 in
theorem as_hit(n:Int)(t:Addr)(old:Value)(w:World)(hg:w.cell? ⟨0,0,none⟩=some (.iface 290 (.agg #[.pointer (some ⟨4,36,none⟩)])))(ht0:w.cell? t=some old)(hf0:w.frozen? t=false):
 Calls Tryz.prog 48 #[.iface 93 (.int .i64 n), .iface 111 (.pointer (some t))] w fun ev w'=>ev= .returned (.bool true)/\w'=((((w.alloc (.cells #[.pointer (some t)] 111)).alloc (.cells #[.pointer (some ⟨4,111,none⟩), .pointer (some ⟨w.heap.size,0,none⟩), .int .u64 150] 207)).alloc (.cells #[.pointer (some ⟨4,111,none⟩), .pointer (some ⟨w.heap.size,0,none⟩), .int .u64 150] 207)).alloc (.cells #[.int .i64 n] 93)).setCell t (.int .i64 n):=by
 have h6:= @run_callFunc_extern Tryz.prog 110 _ (fun args=>ReflectliteValue.unpack (args.getD 0 (.tuple #[]))) Tryz.func110 (by kernel_rfl) (by kernel_rfl) (by kernel_rfl) (by kernel_rfl);have h7:= @run_callFunc_extern Tryz.prog 111 _ (ReflectliteValue.methodAny (ReflectliteValue.valueError "reflectlite.Value.Type" 0) (fun t _ _ _=>ReflectliteType.toType t)) Tryz.func111 (by kernel_rfl) (by kernel_rfl) (by kernel_rfl) (by kernel_rfl);have h8:= @run_callFunc_extern Tryz.prog 112 _ (ReflectliteValue.method (ReflectliteValue.valueError "reflectlite.Value.IsNil" 0) ReflectliteValue.isNil) Tryz.func112 (by kernel_rfl) (by kernel_rfl) (by kernel_rfl) (by kernel_rfl);have h27:= @run_callFunc_extern Tryz.prog 314 _ (ReflectliteType.abiMethod fun t=>do pure (.int .u8 (← Rtype.kind t))) Tryz.func314 (by kernel_rfl) (by kernel_rfl) (by kernel_rfl) (by kernel_rfl);have h37:= @run_callFunc_extern Tryz.prog 324 _ (ReflectliteType.method ReflectliteType.elem) Tryz.func324 (by kernel_rfl) (by kernel_rfl) (by kernel_rfl) (by kernel_rfl);have h38:= @run_callFunc_extern Tryz.prog 325 _ (ReflectliteType.relation "Implements" ReflectliteType.implements_) Tryz.func325 (by kernel_rfl) (by kernel_rfl) (by kernel_rfl) (by kernel_rfl);have h10:= @run_callFunc_extern Tryz.prog 195 _ ReflectliteType.typeOf Tryz.func195 (by kernel_rfl) (by kernel_rfl) (by kernel_rfl) (by kernel_rfl);have h35:= @run_callFunc_extern Tryz.prog 322 _ (ReflectliteType.relation "AssignableTo" ReflectliteType.assignableTo) Tryz.func322 (by kernel_rfl) (by kernel_rfl) (by kernel_rfl) (by kernel_rfl);have h11:= @run_callFunc_extern Tryz.prog 196 _ (ReflectliteValue.method (ReflectliteValue.valueError "reflectlite.Value.Elem" 0) ReflectliteValue.elem) Tryz.func196 (by kernel_rfl) (by kernel_rfl) (by kernel_rfl) (by kernel_rfl);have h12:= @run_callFunc_extern Tryz.prog 197 _ ReflectliteValue.set Tryz.func197 (by kernel_rfl) (by kernel_rfl) (by kernel_rfl) (by kernel_rfl);have tO:=aaB;have mA:=methodAssignableTo;have a25:=J5;have v25:=WC;have f6:=Wy;have f7:=typeP;have mK:=methodKind;have mE:=methodElem;have mI:=methodImplements;have k27:=kindP;have k25:=kindE;have e27:=elemP;have i25:=J4;have n8:=isNilP ⟨w.heap.size,0,none⟩ t ((w.alloc (.cells #[.pointer (some t)] 111)).alloc (.cells #[.pointer (some ⟨4,111,none⟩), .pointer (some ⟨w.heap.size,0,none⟩), .int .u64 150] 207)) (by simp);have hlt:0<w.heap.size:=World.block_lt_of_cell? w _ hg
 have hg2:((w.alloc (.cells #[.pointer (some t)] 111)).alloc (.cells #[.pointer (some ⟨4,111,none⟩), .pointer (some ⟨w.heap.size,0,none⟩), .int .u64 150] 207)).cell? ⟨0,0,none⟩=some (.iface 290 (.agg #[.pointer (some ⟨4,36,none⟩)])):=by
  rw [World.cell?_alloc_lt _ _ ⟨0,0,none⟩ (by simp;try omega),World.cell?_alloc_lt _ _ ⟨0,0,none⟩ hlt];exact hg
 have htl:t.block<w.heap.size:=World.block_lt_of_cell? w _ ht0;have el:=elemVP ⟨w.heap.size,0,none⟩ t (((w.alloc (.cells #[.pointer (some t)] 111)).alloc (.cells #[.pointer (some ⟨4,111,none⟩), .pointer (some ⟨w.heap.size,0,none⟩), .int .u64 150] 207)).alloc (.cells #[.pointer (some ⟨4,111,none⟩), .pointer (some ⟨w.heap.size,0,none⟩), .int .u64 150] 207)) (by rw [World.cell?_alloc_lt _ _ ⟨w.heap.size,0,none⟩ (by simp;omega)];simp)
 have st:=setE t ⟨w.heap.size+1+1+1,0,none⟩ n old ((((w.alloc (.cells #[.pointer (some t)] 111)).alloc (.cells #[.pointer (some ⟨4,111,none⟩), .pointer (some ⟨w.heap.size,0,none⟩), .int .u64 150] 207)).alloc (.cells #[.pointer (some ⟨4,111,none⟩), .pointer (some ⟨w.heap.size,0,none⟩), .int .u64 150] 207)).alloc (.cells #[.int .i64 n] 93))
  (by rw [World.cell?_alloc_at _ _ _ _ (by simp)];rfl)
  (by rw [World.cell?_alloc_lt _ _ t (by simp;omega),World.cell?_alloc_lt _ _ t (by simp;omega),World.cell?_alloc_lt _ _ t (by simp;omega),World.cell?_alloc_lt _ _ t htl];exact ht0)
  (by rw [World.frozen?_alloc_old _ _ t (by simp;omega),World.frozen?_alloc_old _ _ t (by simp;omega),World.frozen?_alloc_old _ _ t (by simp;omega),World.frozen?_alloc_old _ _ t (Nat.ne_of_lt htl)];exact hf0)
 go_enter Tryz.func48,Tryz.ntmps48
 go_wp2;refine wp_loop_rounds 1 ?_;rw [rounds_succ];go_wp2;go_ret;exact⟨rfl,rfl⟩
def lV(w:World):Prop:=w.cell? ⟨0,0,none⟩=some (.iface 290 (.agg #[.pointer (some ⟨4,36,none⟩)]))
theorem lV.below{w w':World}(h:lV w)(hb:Below w.heap.size w w'):lV w':=ah hb h
theorem num_nil(w:World):Calls Tryz.prog 14 #[.nilIface] w fun e w'=>e= .returned (.int .i64 0)/\Below w.heap.size w w':=by
 go_enter Tryz.func14,Tryz.ntmps14
 go_wp2;go_ret;exact⟨rfl,af (Below.refl _ w) _⟩
theorem BZ(n:Int)(w:World)(hg:lV w):Calls Tryz.prog 14 #[.iface 93 (.int .i64 n)] w fun e w'=>e= .returned (.int .i64 n)/\Below w.heap.size w w':=by
 have hA:lV (w.alloc (.cells #[.int .i64 0] 93)):=hg.below (af (Below.refl _ w) _);have htA:(w.alloc (.cells #[.int .i64 0] 93)).cell? ⟨w.heap.size,0,none⟩=some (.int .i64 0):=by simp
 have hfA:(w.alloc (.cells #[.int .i64 0] 93)).frozen? ⟨w.heap.size,0,none⟩=false:=by simp
 go_enter Tryz.func14,Tryz.ntmps14
 go_wp2_with (go_at_call 48;refine(as_hit n _ (.int .i64 0) _ hA htA hfA).mono ?_;rintro e w' ⟨rfl,rfl⟩)
 go_ret;refine⟨rfl, ?_⟩;exact af (af (af (af (af (Below.refl _ w) _) _) _) _) _
end Go.Proofs.YtcefcokpjbebhaaGreatDoor

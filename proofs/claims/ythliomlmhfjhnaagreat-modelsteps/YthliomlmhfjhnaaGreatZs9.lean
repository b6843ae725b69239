/- Texts put together. -/
import Derived.Test.YthliomlmhfjhnaaGreatZs0
import Derived.Deep.Matrix
import Derived.SizedLaws
namespace Go.Proofs.YthliomlmhfjhnaaGreat
set_option maxRecDepth 20000
set_option maxHeartbeats 16000000
open Go.ChangeShapes Go.WideShapes Go.ChangeAt Go.RowKit
set_option linter.unusedVariables false
set_option linter.unusedSimpArgs false
theorem weights_rows {H:Type}{P:Program}{e:TypeId}{d:DataW H}{m:Nat}:∀ {l:List (DataW H)},d∈l→m∈d.weights P e→m∈DataW.weightsAll P e l
 | x :: l,h,hm=>by
  simp only[DataW.weightsAll,List.mem_append]
  rcases List.mem_cons.1 h with rfl|h
  ·exact .inl hm
  ·exact .inr (weights_rows h hm)
theorem bytes34:Tryz.prog.bytesOf 34=24:=by kernel_rfl
theorem bytes2:Tryz.prog.bytesOf 2=8:=by kernel_rfl
theorem open_grid {H:Type}{enc:TypeId × Value→H}{W:World}{a:Option Addr}{n c:Nat}{d:DataW H}{p:List MemPlace}(h:DataW.Trod enc Tryz.prog W 0 (fun _=>true) true 31 (.slice a n c) d p) :
  ∃ A C R,Grid W a n A C R∧(∀ r,r<n→(A r=none→C r=0)∧(R r).length≤C r)∧n≤c∧(a=none→c=0) ∧
   ∀ (ts:List TypeId) (ds:List (DataW H)) (j:Nat),(DataW.weightsEach Tryz.prog ts ds).all (·≤reachBytes)=true→ts[j]? = some 31→ds[j]? = some d→n*24≤140737488351232∧∀ r,r<n→(R r).length*8≤140737488351232:=by
 obtain⟨fuel,hf⟩:=h
 rcases Go.Deep.open_int_rows Tryz.underlying31 Tryz.underlying34 Tryz.underlying2 (by kernel_rfl) (by kernel_rfl) hf with⟨hcs,hd⟩|⟨x,len,cap,A,L,C,Z,hcs,_,hl,hm,hd,hrow⟩
 ·simp[Value.cells] at hcs
  obtain⟨rfl,rfl,rfl⟩:=hcs
  exact⟨fun _=>none,fun _=>0,fun _=>[],⟨by omega,fun h=>by omega,fun _ h=>(by cases h),fun r hr=>by omega⟩,fun r hr=>by omega,Nat.le_refl _,fun _=>rfl,fun ts ds j _ _ _=>⟨by omega,fun r hr=>by omega⟩⟩
 ·simp[Value.cells] at hcs
  obtain⟨rfl,rfl,rfl⟩:=hcs
  have hlen:∀ r,r<n→((Z r).take (L r)).length=L r:=fun r hr=>by
   obtain⟨_,h1,_,h3,_⟩:=hrow r (by omega)
   rw[List.length_take];omega
  refine⟨A,C,fun r=>(Z r).take (L r),⟨by unfold maxLen at hm;omega,fun _=>⟨_,rfl⟩,fun y hy r hr=>?_,fun r hr=>?_⟩,fun r hr=>⟨(hrow r (by omega)).2.2.2.2.2.1,by show ((Z r).take (L r)).length≤C r;rw[hlen r hr];exact (hrow r (by omega)).2.1⟩,hl,fun h=>(by cases h),fun ts ds j hw ht hdj=>?_⟩
  ·obtain rfl:=Option.some.inj hy
   rw[hlen r hr]
   exact (hrow r (by omega)).1
  ·rw[hlen r hr]
   obtain⟨_,h1,h2,h3,h4,h5,h6⟩:=hrow r (by omega)
   cases hA:A r with
   | none =>
    have:L r=0:=by have:=h5 hA;omega
    rw[this]
    exact Reads.nil _ _
   | some y=>exact Reads.of_open h1 h2 h3 (fun i hi=>(h6 y hA).2 i (by omega)) h4
  ·have hd':d=_:=congrArg Prod.fst hd
   subst hd'
   have all:=fun m hm=>of_decide_eq_true (List.all_eq_true.1 hw m (DataW.weights_mem_each ht hdj m hm))
   have unf:∀ (el sp:List (DataW H)),(DataW.slice el sp).weights Tryz.prog 31=(el.length+sp.length)*Tryz.prog.bytesOf 34 :: (DataW.weightsAll Tryz.prog 34 el++DataW.weightsAll Tryz.prog 34 sp):=fun el sp=>by simp only[DataW.weights,Tryz.underlying31]
   refine⟨?_,fun r hr=>?_⟩
   ·have:=all _ (by rw[unf];exact List.mem_cons_self)
    simp only[List.length_map,List.length_range,bytes34,reachBytes] at this
    omega
   ·rw[hlen r hr]
    obtain⟨_,h1,h2,h3,h4,h5,h6⟩:=hrow r (by omega)
    cases hA:A r with
    | none=>have:=h5 hA;omega
    | some y =>
     have hmem:Go.Deep.intRow (H:=H) .i64 (A r) (L r) (Z r)∈(List.range n).map fun r=>Go.Deep.intRow .i64 (A r) (L r) (Z r):=List.mem_map.2 ⟨r,List.mem_range.2 hr,rfl⟩
     have hrw:Go.Deep.intRow (H:=H) .i64 (A r) (L r) (Z r)=.slice (lits .i64 ((Z r).take (L r))) (lits .i64 ((Z r).drop (L r))):=by rw[hA];rfl
     have hmw:((lits (H:=H) .i64 ((Z r).take (L r))).length+(lits (H:=H) .i64 ((Z r).drop (L r))).length)*8∈(Go.Deep.intRow (H:=H) .i64 (A r) (L r) (Z r)).weights Tryz.prog 34:=by
      rw[hrw]
      simp only[DataW.weights,Tryz.underlying34,bytes2]
      exact List.mem_cons_self
     have:=all _ (by rw[unf];exact List.mem_cons_of_mem _ (List.mem_append_left _ (weights_rows hmem hmw)))
     simp only[lits,List.length_map,List.length_take,List.length_drop,reachBytes] at this
     omega
end Go.Proofs.YthliomlmhfjhnaaGreat

/- Texts put together. -/
import Derived.Test.YthliomlmhfjhnaaGreatZp0
import Derived.Test.YthliomlmhfjhnaaGreatZp2
import Derived.ChangeMaps5
import Derived.ChangeOld
import Derived.Deep.Slices
import Derived.SizedLaws
namespace Go.Proofs.YthliomlmhfjhnaaGreat
set_option maxRecDepth 20000
set_option maxHeartbeats 16000000
open Go.ChangeShapes Go.WideShapes Go.ChangeAt Go.RowKit
set_option linter.unusedVariables false
set_option linter.unusedSimpArgs false
section
theorem ce23:Tryz.prog.cellsOf 23=8:=by kernel_rfl
theorem ce44:Tryz.prog.cellsOf 44=1:=by kernel_rfl
theorem ce3:Tryz.prog.cellsOf 3=1:=by kernel_rfl
theorem ce45:Tryz.prog.cellsOf 45=1:=by kernel_rfl
theorem ce47:Tryz.prog.cellsOf 47=11:=by kernel_rfl
structure KsV where
 cd:Int
 ch:Int
 cl:Int
 cv:Int
 cu:Int
 cx:Int
 ct:Int
 cn:Int
 s:Int
 r:Int
 ta:Option Addr
 tn:Nat
 tc:Nat
 tz:List Int
def KsV.v (c:KsV):Value:=.agg #[I4 c.cd,I4 c.ch,I4 c.cl,I4 c.cv,I4 c.cu,I4 c.cx,I4 c.ct,I4 c.cn,.int .u64 c.s,I4 c.r,.slice c.ta c.tn c.tc]
structure KsAt (w:World) (c:KsV):Prop where
 ws:(Lit.int .u64 c.s).wf=true
 t:Reads .i64 w c.ta c.tn c.tz
 te:c.ta=none→c.tc=0
 tl:c.tn≤c.tc
theorem QnB {α:Type}{cs:Array α}(h:cs.size=11):∃ c0 c1 c2 c3 c4 c5 c6 c7 c8 c9 c10,cs=#[c0,c1,c2,c3,c4,c5,c6,c7,c8,c9,c10]:=by
 obtain⟨l⟩:=cs
 match l,h with
 | [c0,c1,c2,c3,c4,c5,c6,c7,c8,c9,c10],_=>exact⟨c0,c1,c2,c3,c4,c5,c6,c7,c8,c9,c10,rfl⟩
section
variable {H:Type}{enc:TypeId × Value→H}{W:World}
theorem QkW {fuel:Nat}{c:Value}{x:DataW H × List MemPlace}(h:DataW.trod enc Tryz.prog W 0 (fun _=>true) true fuel 45 [c]=some x) :
  ∃ a n cp zs,c=.slice a n cp∧Reads .i64 W a n zs∧(a=none→cp=0)∧n≤cp:=by
 rcases open_ints Tryz.underlying45 Tryz.underlying3 (by kernel_rfl) h with⟨hcs,hd⟩|⟨y,l,cp,zs,hcs,_,hl,hm,hz,hd,hcell,hwz⟩
 ·obtain rfl:c=.slice none 0 0:=by simpa using hcs
  exact⟨none,0,0,[],rfl,Reads.nil _ _,fun _=>rfl,Nat.le_refl _⟩
 ·obtain rfl:c=.slice (some y) l cp:=by simpa using hcs
  exact⟨some y,l,cp,zs.take l,rfl,Reads.of_open hl hm (by simpa using hz) hcell hwz,(fun h=>by cases h),hl⟩
theorem QkX {b0:Nat}{r:Reach}{v:Value}{dd:DataW H}{p:List MemPlace}(hv:Value.okWide Tryz.prog W r b0 47 v)(h:DataW.Trod enc Tryz.prog W 0 (fun _=>true) true 47 v dd p):∃ c:KsV,v=c.v∧KsAt W c:=by
 obtain⟨cs,rfl,hsz⟩:=okWide_struct Tryz.underlying47 hv
 obtain⟨c0,c1,c2,c3,c4,c5,c6,c7,c8,c9,c10,rfl⟩:=QnB (hsz.trans ce47)
 obtain⟨fuel,hf⟩:=h
 have hf':DataW.trod enc Tryz.prog W 0 (fun _=>true) true fuel 47 [c0,c1,c2,c3,c4,c5,c6,c7,c8,c9,c10]=some (dd,p):=by simpa [Value.cells] using hf
 obtain⟨xs,n,-,ex,-,hlen,hg⟩:=DataW.trod_struct Tryz.underlying47 hf'
 have hl:xs.length=4:=hlen.trans (by rfl)
 match xs,hl with
 | [x0,x1,x2,x3],_ =>
 have g0:DataW.trod enc Tryz.prog W 0 (fun _=>true) true n 23 [c0,c1,c2,c3,c4,c5,c6,c7]=some x0:=by rw[show [c0,c1,c2,c3,c4,c5,c6,c7]=([c0,c1,c2,c3,c4,c5,c6,c7,c8,c9,c10].drop 0).take (Tryz.prog.cellsOf 23) by rw[ce23];rfl];exact hg 0 _ rfl
 have g1:DataW.trod enc Tryz.prog W 0 (fun _=>true) true n 44 [c8]=some x1:=by rw[show [c8]=([c0,c1,c2,c3,c4,c5,c6,c7,c8,c9,c10].drop 8).take (Tryz.prog.cellsOf 44) by rw[ce44];rfl];exact hg 1 _ rfl
 have g2:DataW.trod enc Tryz.prog W 0 (fun _=>true) true n 3 [c9]=some x2:=by rw[show [c9]=([c0,c1,c2,c3,c4,c5,c6,c7,c8,c9,c10].drop 9).take (Tryz.prog.cellsOf 3) by rw[ce3];rfl];exact hg 2 _ rfl
 have g3:DataW.trod enc Tryz.prog W 0 (fun _=>true) true n 45 [c10]=some x3:=by rw[show [c10]=([c0,c1,c2,c3,c4,c5,c6,c7,c8,c9,c10].drop 10).take (Tryz.prog.cellsOf 45) by rw[ce45];rfl];exact hg 3 _ rfl
 obtain⟨cd,ch,cl,cv,cu,cx,ct,cn,rfl,rfl,rfl,rfl,rfl,rfl,rfl,rfl⟩:=Qlu g0
 obtain⟨s,es,-,ws⟩:=DataW.trod_int Tryz.underlying44 g1
 obtain⟨rk,er,-,wr⟩:=DataW.trod_int Tryz.underlying3 g2
 obtain rfl:c8=.int .u64 s:=by simpa using es
 obtain rfl:c9=I4 rk:=by simpa using er
 obtain⟨ta,tn,tc,tz,rfl,t1,t2,t3⟩:=QkW g3
 exact⟨⟨cd,ch,cl,cv,cu,cx,ct,cn,s,rk,ta,tn,tc,tz⟩,rfl,⟨ws,t1,t2,t3⟩⟩
end
end
end Go.Proofs.YthliomlmhfjhnaaGreat

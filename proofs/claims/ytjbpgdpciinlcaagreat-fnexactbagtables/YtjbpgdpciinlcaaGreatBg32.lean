import Derived.Carry
import Derived.Deep.Slices
import Derived.Lib.SmallJoins
import Derived.OpenShut
import Derived.ProofKit
import Derived.Test.YtjbpgdpciinlcaaGreatRows
import Derived.Test.YtjbpgdpciinlcaaGreatBg09
import Derived.Test.YtjbpgdpciinlcaaGreatBg31
set_option maxHeartbeats 40000000
set_option maxRecDepth 1000000
namespace Go.Proofs.YtjbpgdpciinlcaaGreat
open Go.ChangeShapes Go.WideShapes Go.ChangeAt Go.RowKit Go.Joins Go.Deep
variable {cs:List Value}{fuel:Nat}{v:Value}
theorem Tryz.ownK:ownKnob Tryz.prog.godebug=none:=by kernel_rfl
theorem Tryz.laidO:laidOutB Tryz.prog=true:=by kernel_rfl
theorem Tryz.cellsI:Tryz.prog.cellsOf 3=1:=by kernel_rfl
theorem Tryz.cellsIS:Tryz.prog.cellsOf 24=1:=by kernel_rfl
theorem xP{α:Type}(f:Nat->α)(n j:Nat)(d:α)(h:j < n):((List.range n).map f).getD j d=f j:=by
 rw[gD,bJ,List.getElem?_range h];rfl
variable {H:Type} {enc:TypeId×Value->H} {W:World}
theorem yX{x:DataW H×List MemPlace}(h:DataW.trod enc Tryz.prog W 0 (fun _=>true) true fuel 24 [v]=some x):
 ∃l,IS W v l/\l.length<=9223372036854775807:=by
 rcases open_slice1 Tryz.underlying24 Tryz.cellsI h with ⟨hcs,_⟩|⟨a,len,cap,m,n,V,D,Pl,hcs,_,hl,hm,hmm,_,hV⟩
 ·simp only[List.cons.injEq,and_true]at hcs;subst hcs;exact⟨[],⟨_,_,rfl,Or.inl rfl⟩,by simp⟩
 ·simp only[List.cons.injEq,and_true]at hcs;subst hcs;rw[if_pos rfl]at hmm
  have hz:∀i,i < len->∃z,V i=.int .i64 z:=fun i hi=>by
   obtain⟨_,h2⟩:=hV i (by omega);obtain⟨z,e0,_,_⟩:=DataW.trod_int Tryz.underlying3 h2;exact⟨z,by simpa using e0⟩
  have e:∀i,i < len->V i=.int .i64 (intOf (V i)):=fun i hi=>by
   obtain⟨z,hz⟩:=hz i hi;rw[hz];rfl
  refine⟨(List.range len).map fun i=>intOf (V i),⟨some a,cap,by simp,?_⟩,by simp;unfold maxLen at hm;omega⟩;by_cases h0:len=0
  ·left;simp[h0]
  ·right;obtain⟨b,o,spot⟩:=a;have hs:spot=none:=World.cell?_spot (hV 0 (by omega)).1;subst hs;refine⟨b,o,rfl,fun j hj=>?_⟩;simp only[List.length_map,List.length_range]at hj;rw[xP _ _ _ _ hj,<-e j hj,<-add_plain];exact(hV j (by omega)).1
theorem Qe{x:DataW H×List MemPlace}(h:DataW.trod enc Tryz.prog W 0 (fun _=>true) true fuel 23 [v]=some x):
 ∃ls,ISS W v ls/\Fits ls:=by
 rcases open_slice1 Tryz.underlying23 Tryz.cellsIS h with ⟨hcs,_⟩|⟨a,len,cap,m,n,V,D,Pl,hcs,_,hl,hm,hmm,_,hV⟩
 ·simp only[List.cons.injEq,and_true]at hcs;subst hcs;exact⟨[],⟨_,_,rfl,Or.inl rfl⟩,by simp,fun j=>by simp⟩
 ·simp only[List.cons.injEq,and_true]at hcs;subst hcs;rw[if_pos rfl]at hmm
  have hz:∀i,i < len->∃l,IS W (V i) l/\l.length<=9223372036854775807:=fun i hi=>by
   obtain⟨_,h2⟩:=hV i (by omega);exact yX h2
  obtain⟨L,hL⟩:=choose_lt (α:=List Int) hz;refine⟨(List.range len).map L,⟨some a,cap,by simp,?_⟩,by simp;unfold maxLen at hm;omega,fun j=>?_⟩
  ·by_cases h0:len=0
   ·left;simp[h0]
   ·right;obtain⟨b,o,spot⟩:=a;have hs:spot=none:=World.cell?_spot (hV 0 (by omega)).1;subst hs;refine⟨b,o,rfl,fun j hj=>?_⟩;simp only[List.length_map,List.length_range]at hj;refine⟨V j,?_,?_⟩
    ·rw[<-add_plain];exact(hV j (by omega)).1
    ·rw[xP _ _ _ _ hj];exact(hL j hj).1
  ·by_cases hj:j < len
   ·rw[xP _ _ _ _ hj];exact(hL j hj).2
   ·rw[gD,gN (by simpa using hj)];simp
theorem Tryz.cellsISS:Tryz.prog.cellsOf 23=1:=by kernel_rfl
theorem Tryz.cellsR:Tryz.prog.cellsOf 27=2:=by kernel_rfl
theorem Tryz.cellsRS:Tryz.prog.cellsOf 25=1:=by kernel_rfl
theorem Tryz.cellsPl:Tryz.prog.cellsOf 29=6:=by kernel_rfl
theorem qD6{α:Type}{l:List α}(h:l.length=6):∃a b c d e f,l=[a,b,c,d,e,f]:=by
 match l,h with
 |[a,b,c,d,e,f],_=>exact⟨a,b,c,d,e,f,rfl⟩
theorem qD7{α:Type}{l:List α}(h:l.length=2):∃a b,l=[a,b]:=by
 match l,h with
 |[a,b],_=>exact⟨a,b,rfl⟩
theorem qC6{a:Array Value}(h:a.size=6):∃v0 v1 v2 v3 v4 v5,a=#[v0,v1,v2,v3,v4,v5]:=by
 obtain⟨l⟩:=a;match l,h with
 |[v0,v1,v2,v3,v4,v5],_=>exact⟨v0,v1,v2,v3,v4,v5,rfl⟩
section
variable {H:Type} {P:Program} {w:World} {enc:TypeId×Value->H} {base:Nat} {spare:Nat->Bool} {held:Bool}
theorem qAv{t:TypeId}{f0 f1 f2 f3 f4:Field}{x:DataW H×List MemPlace}(ht:P.underlying t=some (.struct #[f0,f1,f2,f3,f4]))(h:DataW.trod enc P w base spare held fuel t cs=some x):
 ∃y0 y1 y2 y3 y4 n,cs.length=P.cellsOf t/\DataW.trod enc P w base spare held n f0.type ((cs.drop f0.offset).take (P.cellsOf f0.type))=some y0/\
  DataW.trod enc P w base spare held n f1.type ((cs.drop f1.offset).take (P.cellsOf f1.type))=some y1/\DataW.trod enc P w base spare held n f2.type ((cs.drop f2.offset).take (P.cellsOf f2.type))=some y2/\
  DataW.trod enc P w base spare held n f3.type ((cs.drop f3.offset).take (P.cellsOf f3.type))=some y3/\DataW.trod enc P w base spare held n f4.type ((cs.drop f4.offset).take (P.cellsOf f4.type))=some y4:=by
 obtain⟨xs,n,_,rfl,hl,hlen,hf⟩:=DataW.trod_struct ht h;match xs,hlen with
 |[y0,y1,y2,y3,y4],_=>exact⟨y0,y1,y2,y3,y4,n,hl,by simpa using hf 0 f0 rfl,by simpa using hf 1 f1 rfl,by simpa using hf 2 f2 rfl,by simpa using hf 3 f3 rfl,by simpa using hf 4 f4 rfl⟩
end
variable {H:Type} {enc:TypeId×Value->H} {W:World}
theorem Qf{x:DataW H×List MemPlace}(h:DataW.trod enc Tryz.prog W 0 (fun _=>true) true fuel 27 cs=some x):
 ∃r:Int×Int,cs=[.int .i64 r.1,.int .i64 r.2]:=by
 obtain⟨y0,y1,n,_,hlen,h0,h1⟩:=trod_struct2 Tryz.underlying27 h;rw[Tryz.cellsR]at hlen;obtain⟨c0,c1,rfl⟩:=qD7 hlen;simp only[Tryz.cellsI,List.drop_zero,List.drop_succ_cons,List.take_succ_cons,List.take_zero]at h0 h1;obtain⟨s,e0,_,hs⟩:=DataW.trod_int Tryz.underlying3 h0;obtain⟨z,e1,_,hz⟩:=DataW.trod_int Tryz.underlying3 h1;simp only[List.cons.injEq,and_true]at e0 e1;subst e0 e1;exact⟨(s,z),rfl⟩
theorem Vc{x:DataW H×List MemPlace}(h:DataW.trod enc Tryz.prog W 0 (fun _=>true) true fuel 25 [v]=some x):
 ∃ds,IR W v ds/\ds.length<=9223372036854775807:=by
 rcases open_slice Tryz.underlying25 h with ⟨hcs,_⟩|⟨a,len,cap,m,n,D,Pl,hcs,_,hl,hm,hmm,_,hV⟩
 ·simp only[List.cons.injEq,and_true]at hcs;subst hcs;exact⟨[],⟨_,_,rfl,Or.inl rfl⟩,by simp⟩
 ·simp only[List.cons.injEq,and_true]at hcs;subst hcs;rw[if_pos rfl]at hmm
  have hz:∀i,i < len->∃r:Int×Int,(W.cell? (a.add (i*2))=some (.int .i64 r.1)/\W.cell? ((a.add (i*2)).add 1)=some (.int .i64 r.2))/\True:=fun i hi=>by
   obtain⟨cs',h1,h2⟩:=hV i (by omega);rw[Tryz.cellsR]at h1;obtain⟨_,hlen,hc⟩:=World.cells?_some h1;obtain⟨r,rfl⟩:=Qf h2;have e0:=hc 0 (by omega);have e1:=hc 1 (by omega);exact⟨r,⟨by simpa[Addr.add]using e0,e1⟩,trivial⟩
  obtain⟨L,hL⟩:=choose_lt (α:=Int×Int) hz;refine⟨(List.range len).map L,⟨some a,cap,by simp,?_⟩,by simp;unfold maxLen at hm;omega⟩;by_cases h0:len=0
  ·left;simp[h0]
  ·right;obtain⟨b,o,spot⟩:=a;have hs:spot=none:=World.cell?_spot (hL 0 (by omega)).1.1;subst hs;refine⟨b,o,rfl,fun j hj=>?_⟩;simp only[List.length_map,List.length_range]at hj;rw[xP _ _ _ _ hj];obtain⟨⟨c0,c1⟩,_⟩:=hL j hj;rw[add_plain]at c0;rw[add_plain,add_plain]at c1;exact⟨c0,c1⟩
theorem Vd{x:DataW H×List MemPlace}(h:DataW.trod enc Tryz.prog W 0 (fun _=>true) true fuel 29 cs=some x):
 ∃v0 v1 v2 v3 a b bs ps hs ws,cs=[v0,v1,v2,v3,.int .i64 a,.int .i64 b]/\IPl W v0 v1 v2 v3 bs ps hs ws/\Fits bs/\ps.length<=9223372036854775807/\hs.length<=9223372036854775807/\ws.length<=9223372036854775807:=by
 obtain⟨y0,y1,y2,y3,y4,n,hlen,h0,h1,h2,h3,h4⟩:=qAv Tryz.underlying29 h;rw[Tryz.cellsPl]at hlen;obtain⟨c0,c1,c2,c3,c4,c5,rfl⟩:=qD6 hlen;simp only[Tryz.cellsIS,Tryz.cellsISS,Tryz.cellsRS,Tryz.cellsR,List.drop_zero,List.drop_succ_cons,List.take_succ_cons,List.take_zero]at h0 h1 h2 h3 h4;obtain⟨bs,i0,f0⟩:=Qe h0;obtain⟨ps,i1,f1⟩:=yX h1;obtain⟨hs,i2,f2⟩:=yX h2;obtain⟨ws,i3,f3⟩:=Vc h3;obtain⟨r,e⟩:=Qf h4;simp only[List.cons.injEq,and_true]at e;obtain⟨rfl,rfl⟩:=e;exact⟨c0,c1,c2,c3,r.1,r.2,bs,ps,hs,ws,rfl,⟨i0,i1,i2,i3⟩,f0,f1,f2,f3⟩
variable {H:Type} {enc:TypeId×Value->H} {W:World}
theorem Tryz.cellsTabL:Tryz.prog.cellsOf 48=3:=by kernel_rfl
theorem Tryz.cellsISS6:Tryz.prog.cellsOf 23=1:=by kernel_rfl
theorem qEY{α:Type}{l:List α}(h:l.length=3):∃a b c,l=[a,b,c]:=by
 match l,h with
 |[a,b,c],_=>exact⟨a,b,c,rfl⟩
theorem JA{x:DataW H×List MemPlace}(h:DataW.trod enc Tryz.prog W 0 (fun _=>true) true fuel 48 cs=some x):
 ∃v0 v1 v2 t,cs=[v0,v1,v2]/\IT W v0 v1 v2 t.vs t.rows t.ws/\TvF t:=by
 obtain⟨y0,y1,y2,n,_,hlen,h0,h1,h2⟩:=trod_struct3 Tryz.underlying48 h;rw[Tryz.cellsTabL]at hlen;obtain⟨c0,c1,c2,rfl⟩:=qEY hlen;simp only[Tryz.cellsISS6,Tryz.cellsIS,List.drop_zero,List.drop_succ_cons,List.take_succ_cons,List.take_zero]at h0 h1 h2;obtain⟨vs,i0,f0⟩:=yX h0;obtain⟨rows,i1,f1⟩:=Qe h1;obtain⟨ws,i2,f2⟩:=yX h2;exact⟨c0,c1,c2,⟨vs,rows,ws⟩,rfl,⟨i0,i1,i2⟩,⟨f0,f1,f2⟩⟩
theorem Ve{x:DataW H×List MemPlace}(h:DataW.trod enc Tryz.prog W 0 (fun _=>true) true fuel 22 [v]=some x):
 ∃tl,ITs W v tl/\tl.length<=9223372036854775807/\∀t∈tl,TvF t:=by
 rcases open_slice Tryz.underlying22 h with ⟨hcs,_⟩|⟨a,len,cap,m,n,D,Pl,hcs,_,hl,hm,hmm,_,hV⟩
 ·simp only[List.cons.injEq,and_true]at hcs;subst hcs;exact⟨[],⟨_,_,rfl,Or.inl rfl⟩,by simp,fun t ht=>by cases ht⟩
 ·simp only[List.cons.injEq,and_true]at hcs;subst hcs;rw[if_pos rfl]at hmm
  have hz:∀i,i < len->∃t:TbV,(∃v0 v1 v2,W.cell? (a.add (i*3))=some v0/\W.cell? ((a.add (i*3)).add 1)=some v1/\W.cell? ((a.add (i*3)).add 2)=some v2/\IT W v0 v1 v2 t.vs t.rows t.ws)/\TvF t:=fun i hi=>by
   obtain⟨cs',h1,h2⟩:=hV i (by omega);rw[Tryz.cellsTabL]at h1;obtain⟨_,hlen,hc⟩:=World.cells?_some h1;obtain⟨v0,v1,v2,t,rfl,hir,hf⟩:=JA h2;have e0:=hc 0 (by omega);have e1:=hc 1 (by omega);have e2:=hc 2 (by omega);exact⟨t,⟨v0,v1,v2,by simpa[Addr.add]using e0,e1,e2,hir⟩,hf⟩
  have inh:Inhabited TbV:=⟨qA⟩
  obtain⟨L,hL⟩:=choose_lt (α:=TbV) hz;refine⟨(List.range len).map L,⟨some a,cap,by simp,?_⟩,by simp;unfold maxLen at hm;omega,fun t ht=>?_⟩
  ·by_cases h0:len=0
   ·left;simp[h0]
   ·right;obtain⟨b,o,spot⟩:=a
    have hs:spot=none:=by
     obtain⟨⟨v0,v1,v2,c0,_⟩,_⟩:=hL 0 (by omega);exact World.cell?_spot c0
    subst hs;refine⟨b,o,rfl,fun j hj=>?_⟩;simp only[List.length_map,List.length_range]at hj;rw[xP _ _ _ _ hj];obtain⟨⟨v0,v1,v2,c0,c1,c2,hir⟩,_⟩:=hL j hj;rw[add_plain]at c0;rw[add_plain,add_plain]at c1 c2;exact⟨v0,v1,v2,c0,c1,c2,hir⟩
  ·obtain⟨j,hj,rfl⟩:=List.mem_map.1 ht;exact(hL j (List.mem_range.1 hj)).2
end Go.Proofs.YtjbpgdpciinlcaaGreat

import Derived.Test.YtcnfapnfmnolbaaGreatRq27
import Derived.Test.YtcnfapnfmnolbaaGreatRq50
set_option maxHeartbeats 40000000
set_option maxRecDepth 1000000
namespace Go.Proofs.YtcnfapnfmnolbaaGreat.FReduce
open Go.ChangeShapes Go.WideShapes Go.ChangeAt Go.RowKit Go.Joins
theorem lifted(os:Os)(started:os.Started)(H:Type)(enc:TypeId×Value->H):
 ReturnsInHanded {} Tryz.checked os 3 .any (Rows.fnExactReduceSpec.pre6 enc Tryz.prog Tryz.f3 Rows.fnExactReduceRow.domain false) (Rows.fnExactReduceSpec.post enc Tryz.prog Tryz.f3 false true false false):=by
 refine returnsInHanded_of_change (C:=Tryz.checked) Tryz.ownK started Kl Tryz.func3
  (ChangeSpec.witness6 (enc:=enc) (C:=Tryz.checked) false ⟨#[],#[ai 0,sn,.agg #[sn,sn,sn,sn,ai 0,ai 0]],[]⟩ 8 Kl Kl Kl Kl) ?_
 intro W base args ds gs before K hW _ _;have I:∀(j:Nat) t v,Tryz.f3.params[j]?=some t->args[j]?=some v->Value.okWide Tryz.prog W .any base t v:=K;have a4:=hW;obtain⟨p,q,M,hV,rfl,_,_⟩:=hW;have hA:DataW.TrodAll enc Tryz.prog W 0 (λ_=>true) true Tryz.f3.params.toList args.toList ds p:=M;rw[Tryz.params3]at hA I;obtain⟨v0,a7,d0,a8,p0,q0,a5,rfl,rfl,h0,r0⟩:=trodAll_cons hA;obtain⟨v1,a9,d1,b0,p1,q1,rfl,rfl,rfl,h1,r1⟩:=trodAll_cons r0;obtain⟨v2,b1,d2,b7,p2,q2,rfl,rfl,rfl,h2,r2⟩:=trodAll_cons r1;obtain⟨rfl,rfl,rfl⟩:=trodAll_nil r2;obtain rfl:args=#[v0,v1,v2]:=by cases args;simp_all
 obtain⟨rfl,rfl⟩:=trodVars_none hV;have k0:=h0;have k1:=h1;have k2:=h2;have lt0:∀x∈p0,x.block<W.1.size:=by obtain⟨m,O⟩:=k0;exact DataW.trod_lt m _ _ _ O
 have lt1:∀x∈p1,x.block<W.1.size:=by obtain⟨m,O⟩:=k1;exact DataW.trod_lt m _ _ _ O
 have lt2:∀x∈p2,x.block<W.1.size:=by obtain⟨m,O⟩:=k2;exact DataW.trod_lt m _ _ _ O
 obtain⟨k,rfl,-,-,-⟩:=open_int Tryz.underlying3 (I 0 3 v0 rfl rfl) h0;obtain⟨a1,U,V,rfl⟩:=okWide_slice Tryz.underlying22 (I 1 22 v1 rfl rfl);obtain⟨tl,i1,f1,t1⟩:∃tl,ITs W (.slice a1 U V) tl/\tl.length<=9223372036854775807/\∀t∈tl,TvF t:=by
  obtain⟨fuel,hf⟩:=h1;exact JK (by simpa[Value.cells]using hf)
 obtain⟨cs,rfl,a6⟩:=okWide_struct Tryz.underlying29 (I 2 29 v2 rfl rfl);obtain⟨c0,c1,c2,c3,c4,c5,rfl⟩:=qFE (a6.trans Tryz.cellsPl);obtain⟨u0,u1,u2,u3,a,b,bs,ps,hs,ws,a3,i2,g0,g1,g2,g3⟩:∃v0 v1 v2 v3 a b bs ps hs ws,[c0,c1,c2,c3,c4,c5]=[v0,v1,v2,v3,ai a,ai b]/\IPl W v0 v1 v2 v3 bs ps hs ws/\Fits bs/\ps.length<=9223372036854775807/\hs.length<=9223372036854775807/\ws.length<=9223372036854775807:=by
  obtain⟨fuel,hf⟩:=h2;exact JJ (by simpa[Value.cells]using hf)
 simp only[List.cons.injEq,and_true]at a3;obtain⟨rfl,rfl,rfl,rfl,rfl,rfl⟩:=a3;clear M K;refine(Kd W _ c0 c1 c2 c3 k a b tl bs ps hs ws i1 i2 f1 t1 g0 g1 g2 g3).mono λe W' ⟨he,bel⟩=>?_;subst he;exact⟨_,rfl,_,_,_,[],_,[],a4,trodAll_mk1 (shut_bool Tryz.underlying4 _),(trodAll_cons_mk (Below.trod Tryz.laidO Kl (of_decide_eq_true Kl) k0 bel lt0) (trodAll_cons_mk (Below.trod Tryz.laidO Kl (of_decide_eq_true Kl) k1 bel lt1) (trodAll_cons_mk (Below.trod Tryz.laidO Kl (of_decide_eq_true Kl) k2 bel lt2) trodAll_mk0))),rfl,bel.frame _,λh=>by cases h⟩
end Go.Proofs.YtcnfapnfmnolbaaGreat.FReduce
namespace Go.Proofs.YtcnfapnfmnolbaaGreat
theorem fnExactReduce_holds:Rows.FnExactReduceSaid:=
 OpenClaim.holds_of_wide 3 Tryz.f3 rfl rfl rfl rfl rfl rfl rfl ⟨rfl,rfl,rfl,rfl,rfl⟩ rfl rfl rfl rfl rfl Kl Tryz.func3 Kl
  (of_decide_eq_true Kl) (by unfold Func.isWrapper;first|(rw[if_pos (by decide+kernel)];kernel_rfl)|(rw[if_neg (by decide+kernel)];exact⟨rfl,rfl⟩))
  (λos started H enc _=>FReduce.lifted os started H enc)
#print axioms fnExactReduce_holds
end Go.Proofs.YtcnfapnfmnolbaaGreat

import Derived.Test.YtkaipapdlnojiaaGreatWq06
import Derived.Test.YtkaipapdlnojiaaGreatWq49
import Derived.Test.YtkaipapdlnojiaaGreatWq50
set_option maxHeartbeats 40000000
set_option maxRecDepth 1000000
namespace Go.Proofs.YtkaipapdlnojiaaGreat.FWork
open Go.ChangeShapes Go.WideShapes Go.ChangeAt Go.RowKit Go.Joins Go.Deep
theorem qF2:Tryz.prog.cellsOf 5=1:=by kernel_rfl
theorem Vh{H:Type}{enc:TypeId×Value->H}{W:World}{fuel:Nat}{a:Option Addr}{n cap:Nat}{x:DataW H×List MemPlace}(h:DataW.trod enc Tryz.prog W 0 (λ_=>true) true fuel 22 [.slice a n cap]=some x):
 (∀j,j < n->∃b o z,a=some ⟨b,o,none⟩/\W.cell? ⟨b,o+j,none⟩=some (.int .u8 z)/\0<=z/\z < 256)/\n<=9223372036854775807:=by
 rcases open_slice1 Tryz.underlying22 qF2 h with ⟨I,_⟩|⟨a',len,M,m,n',V,D,Pl,I,_,hl,hm,K,_,O⟩
 ·simp only[List.cons.injEq,and_true,Value.slice.injEq]at I;obtain⟨rfl,rfl,rfl⟩:=I;exact⟨λj hj=>Oo,Oo⟩
 ·simp only[List.cons.injEq,and_true,Value.slice.injEq]at I;obtain⟨rfl,rfl,rfl⟩:=I;rw[if_pos rfl]at K;refine⟨λj hj=>?_,by unfold maxLen at hm;omega⟩;obtain⟨b,o,spot⟩:=a';have hs:spot=none:=World.cell?_spot (O 0 Oo).1;subst hs;obtain⟨h1,h2⟩:=O j Oo;obtain⟨z,e0,_,U⟩:=DataW.trod_int Tryz.underlying5 h2;have ez:V j=.int .u8 z:=by simpa using e0
  refine⟨b,o,z,rfl,?_,?_⟩
  ·rw[<-add_plain,h1,ez]
  ·unfold Lit.wf at U;simp only[Bool.and_eq_true,decide_eq_true_eq]at U;have m0:IntKind.min .u8=0:=Dd;have m1:IntKind.max .u8=255:=Dd;omega
theorem lifted(os:Os)(started:os.Started)(H:Type)(enc:TypeId×Value->H):
 ReturnsInHanded {} Tryz.checked os 3 .any (Rows.fnWorkSpec.pre6 enc Tryz.prog Tryz.f3 Rows.fnWorkRow.domain false) (Rows.fnWorkSpec.post enc Tryz.prog Tryz.f3 false true false false):=by
 refine returnsInHanded_of_change (C:=Tryz.checked) Tryz.ownK started (by kernel_rfl) Tryz.func3
  (ChangeSpec.witness6 (enc:=enc) (C:=Tryz.checked) false ⟨#[],#[.slice none 0 0],[]⟩ 8 (by kernel_rfl) (by kernel_rfl) (by kernel_rfl) (by kernel_rfl)) ?_
 intro W base args ds gs before I hW _ _;have M:∀(j:Nat) t v,Tryz.f3.params[j]?=some t->args[j]?=some v->Value.okWide Tryz.prog W .any base t v:=I;have V:=hW;obtain⟨p,q,O,hV,rfl,_,_⟩:=hW;have hA:DataW.TrodAll enc Tryz.prog W 0 (λ_=>true) true Tryz.f3.params.toList args.toList ds p:=O;rw[Tryz.params3]at hA M;obtain⟨v0,a4,d0,a5,p0,q0,a2,rfl,rfl,h0,r0⟩:=trodAll_cons hA;obtain⟨rfl,rfl,rfl⟩:=trodAll_nil r0;obtain rfl:args=#[v0]:=by cases args;simp_all
 obtain⟨rfl,rfl⟩:=trodVars_none hV;have k0:=h0;have a3:∀x∈p0,x.block < W.heap.size:=by obtain⟨m,hm⟩:=k0;exact DataW.trod_lt m _ _ _ hm
 obtain⟨a0,K,U,rfl⟩:=okWide_slice Tryz.underlying22 (M 0 22 v0 rfl rfl)
 obtain⟨i0,f0⟩:=(by
  obtain⟨fuel,hf⟩:=h0;exact Vh (by simpa[Value.cells]using hf):(∀j,j < K->∃b o z,a0=some ⟨b,o,none⟩/\W.cell? ⟨b,o+j,none⟩=some (.int .u8 z)/\0<=z/\z < 256)/\K<=9223372036854775807)
 clear O I;refine(Kl YL W a0 K U i0 f0).mono λe W' ⟨he,bel⟩=>?_;subst he;exact⟨_,rfl,_,_,_,[],_,[],V,trodAll_mk1 (shut_bool Tryz.underlying4 _),(trodAll_cons_mk (Below.trod Tryz.laidO (by kernel_rfl) (of_decide_eq_true (by kernel_rfl)) k0 bel a3) trodAll_mk0),rfl,bel.frame _,λh=>by cases h⟩
end Go.Proofs.YtkaipapdlnojiaaGreat.FWork
namespace Go.Proofs.YtkaipapdlnojiaaGreat
theorem fnWork_holds:Rows.FnWorkSaid:=
 OpenClaim.holds_of_wide 3 Tryz.f3 rfl rfl rfl rfl rfl rfl rfl ⟨rfl,rfl,rfl,rfl,rfl⟩ rfl rfl rfl rfl rfl (by kernel_rfl) Tryz.func3 (by kernel_rfl)
  (of_decide_eq_true (by kernel_rfl)) (by unfold Func.isWrapper;first|(rw[if_pos (by decide+kernel)];kernel_rfl)|(rw[if_neg (by decide+kernel)];exact⟨rfl,rfl⟩))
  (λos started H enc _=>FWork.lifted os started H enc)
#print axioms fnWork_holds
end Go.Proofs.YtkaipapdlnojiaaGreat
